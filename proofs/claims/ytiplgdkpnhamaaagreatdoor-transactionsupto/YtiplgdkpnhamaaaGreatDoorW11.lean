/- The texts G6, X1, T1, X2, T2, R9, T3, joined. -/
import Derived.Test.YtiplgdkpnhamaaaGreatDoorW06
import Derived.Test.YtiplgdkpnhamaaaGreatDoorW08
import Derived.Test.YtiplgdkpnhamaaaGreatDoorW05
import Derived.Test.YtiplgdkpnhamaaaGreatDoorW02
import Derived.Maps.RangeWalk
import Derived.Laws.CopyRow

/- Maps, more of them: a store at a key that is there, len, a nil map, range. -/
namespace Go.Proofs.YtiplgdkpnhamaaaGreatDoor
open Go.RowKit
open Go.Maps (Keyed)
open Go.ChangeMaps Go.MapKept Go.WideShapes
open Go.WideElems (Fit rd rg pl rd_key rd_val rg_of other_key)

section
variable {α β : Type} {w w' : World} {k t e : TypeId} {b n r cnt : Nat} {kv : α → Value} {ev : β → Value} {m : α → Option β} {left : α → Bool}
theorem owns_tight {n' : Nat} {D : DataW Value} (h : w.ownsMap Tryz.prog k rawElem b n D) (hs : Maps.size D ≤ n') : w.ownsMap Tryz.prog k rawElem b n' D := by
  obtain ⟨es, clock, hb, F, _, rfl⟩ := h
  exact ⟨es, clock, hb, F, by simpa [Maps.size, length_sorted] using hs, rfl⟩
theorem MapIn.mono {n' : Nat} (h : MapIn w k b n kv ev m) (hn : n ≤ n') : MapIn w k b n' kv ev m := by
  obtain ⟨D, hD, r⟩ := h.ex
  exact ⟨D, hD.mono hn, r⟩
/-- A store at a key that is there: there are no more entries than before. -/
theorem MapIn.store_old [DecidableEq α] (h : MapIn w k b n kv ev m) (K : Keyed Tryz.prog k) (ht : Tryz.prog.underlying t = some (.map k e)) (hinj : ∀ a a', kv a = kv a' → a = a') (hn : n < maxLen) {a : α} {kl : Lit} (hkey : keyOf Tryz.prog k (kv a) = some kl) {y : β} (hm : m a = some y) (x : β) :
    ∃ w', (Instr.mapUpdate t (.map (some b)) (kv a) (ev x)).run Tryz.prog w = .ok () w' ∧ MapIn w' k b n kv ev (fun a' => if a' = a then some x else m a') ∧ w.grownBy w' (some b) := by
  obtain ⟨D, hD, hat, hall⟩ := h.ex
  obtain ⟨w1, hrun1, hD1, hg1⟩ := hD.update K ht hn (d := .held (ev x)) (ps := []) hkey rfl
  have hsz : Maps.size (D.put kl (.held (ev x))) ≤ n := by
    rw [Maps.size_put (hD.tidy K), (hat a kl hkey).1, hm]
    exact hD.size_le
  have hD' := owns_tight hD1 hsz
  refine ⟨w1, hrun1, ⟨_, hD', fun a' kl' hk' => ?_, fun kl' hh => ?_⟩, hg1⟩
  · by_cases c : a' = a
    · subst c
      rw [hkey] at hk'
      cases hk'
      rw [if_pos rfl]
      refine ⟨Maps.has_put_same hD.isMap (K.key hkey) _, fun y hy z => ?_⟩
      cases hy
      exact Maps.atKey_put_same hD.isMap (K.key hkey) _ _
    · have hne : kl' ≠ kl := fun e => c (hinj _ _ (K.inj hk' (e ▸ hkey)))
      rw [if_neg c, Maps.has_put_other hne]
      obtain ⟨h1, h2⟩ := hat a' kl' hk'
      refine ⟨h1, fun y hy z => ?_⟩
      rw [Maps.atKey_put_other hne]
      exact h2 y hy z
  · by_cases c : kl' = kl
    · subst c; exact ⟨a, x, hkey, by rw [if_pos rfl]⟩
    · rw [Maps.has_put_other c] at hh
      obtain ⟨a', y, ha', hy⟩ := hall kl' hh
      refine ⟨a', y, ha', ?_⟩
      rw [if_neg (fun e => c (by rw [e, hkey] at ha'; exact (Option.some.inj ha').symm))]
      exact hy
theorem MapIn.len (h : MapIn w k b n kv ev m) (ht : Tryz.prog.underlying t = some (.map k e)) (ty : TypeId) : ∃ c : Nat, c ≤ n ∧ (c = 0 → ∀ a kl, keyOf Tryz.prog k (kv a) = some kl → m a = none) ∧ ∀ W : World, W.heap[b]? = w.heap[b]? → (Builtin.len_ #[t] ty #[.map (some b)]).run Tryz.prog W = .ok (.int .i64 c) W := by
  obtain ⟨D, hD, hat, -⟩ := h.ex
  refine ⟨Maps.size D, hD.size_le, fun h0 a kl hk => ?_, fun W hW => ?_⟩
  · have h1 := (hat a kl hk).1
    have h2 : Maps.has D kl = false := by
      obtain ⟨es, clock, hb, F, hs, rfl⟩ := hD
      have : (List.foldr DataW.insert [] (List.map (rg Tryz.prog k rawElem) es.toList)) = [] := List.eq_nil_of_length_eq_zero h0
      rw [this]; rfl
    rw [h2] at h1
    cases hm : m a
    · rfl
    · rw [hm] at h1; cases h1
  · obtain ⟨es, clock, hb, F, hs, hDe⟩ := hD
    exact World.ownsMap.len (w := W) (n := n) (R := rawElem) (D := D) ⟨es, clock, hW.trans hb, F, hs, hDe⟩ ht ty

/-- 'for k, v := range m' under way: left says which are still to come. -/
structure RngIn (w : World) (k : TypeId) (b r n : Nat) (kv : α → Value) (ev : β → Value) (m : α → Option β) (left : α → Bool) (cnt : Nat) : Prop where
  ex : ∃ D L, w.ranges Tryz.prog k rawElem b r n D L cnt ∧ (∀ a kl, keyOf Tryz.prog k (kv a) = some kl → Maps.has D kl = (m a).isSome ∧ ∀ x, m a = some x → ∀ z, D.atKey kl z = .held (ev x)) ∧ (∀ kl, Maps.has D kl = true → ∃ a x, keyOf Tryz.prog k (kv a) = some kl ∧ m a = some x) ∧ ∀ a kl, keyOf Tryz.prog k (kv a) = some kl → left a = L kl
theorem RngIn.map (h : RngIn w k b r n kv ev m left cnt) : MapIn w k b n kv ev m := by
  obtain ⟨D, L, hr, h1, h2, -⟩ := h.ex
  exact ⟨D, hr.owns, h1, h2⟩
theorem RngIn.move (h : RngIn w k b r n kv ev m left cnt) (hb : w'.heap[b]? = w.heap[b]?) (hr : w'.heap[r]? = w.heap[r]?) : RngIn w' k b r n kv ev m left cnt := by
  obtain ⟨D, L, ⟨es, clock, since, seen, c0, x1, F, hs, hD, x2, rest⟩, h1⟩ := h.ex
  exact ⟨D, L, ⟨es, clock, since, seen, c0, hb.trans x1, F, hs, hD, hr.trans x2, rest⟩, h1⟩
theorem RngIn.lt (h : RngIn w k b r n kv ev m left cnt) : r < w.heap.size := by obtain ⟨D, L, hr, -⟩ := h.ex; exact hr.lt
theorem RngIn.ne (h : RngIn w k b r n kv ev m left cnt) : r ≠ b := by obtain ⟨D, L, hr, -⟩ := h.ex; exact hr.ne
theorem RngIn.left_eq (h : RngIn w k b r n kv ev m left cnt) : w.rangeLeft b r = cnt := by obtain ⟨D, L, hr, -⟩ := h.ex; exact hr.left_eq
theorem MapIn.range (h : MapIn w k b n kv ev m) (K : Keyed Tryz.prog k) (ht : Tryz.prog.underlying t = some (.map k e)) :
    ∃ w' cnt, (Instr.range t (.map (some b))).run Tryz.prog w = .ok (.pointer (some ⟨w.heap.size, 0, none⟩)) w' ∧ RngIn w' k b w.heap.size n kv ev m (fun a => (m a).isSome) cnt ∧ cnt ≤ n ∧ w.grownBy w' none ∧ w'.heap.size = w.heap.size + 1 := by
  obtain ⟨D, hD, h1, h2⟩ := h.ex
  obtain ⟨w', hrun, hr, hg, hs⟩ := hD.range K ht
  exact ⟨w', _, hrun, ⟨D, _, hr, h1, h2, fun a kl hk => (h1 a kl hk).1.symm⟩, hD.size_le, hg, hs⟩
theorem ranges_has {P : Program} {D : DataW Value} {L : Lit → Bool} (h : w.ranges P k rawElem b r n D L cnt) (K : Keyed P k) {kl : Lit} (hl : L kl = true) : Maps.has D kl = true := by
  obtain ⟨es, clock, since, seen, c0, hb, F, hs, rfl, hr, hold, hc, hl1, hl2, -⟩ := h
  obtain ⟨x, hx, rfl⟩ := hl2 kl hl
  obtain ⟨y, hy⟩ := F.reads x hx
  exact List.any_eq_true.2 ⟨rg P k rawElem x, mem_sorted.2 (List.mem_map.2 ⟨x, hx, rfl⟩), WideAt.sameKey_self (by rw [rg_of hy]; exact K.key (rd_key hy))⟩
set_option maxRecDepth 100000 in
theorem RngIn.next [DecidableEq α] (h : RngIn w k b r n kv ev m left cnt) (K : Keyed Tryz.prog k) (hinj : ∀ a a', kv a = kv a' → a = a') (ty : TypeId) :
    (cnt = 0 ∧ (∀ a kl, keyOf Tryz.prog k (kv a) = some kl → left a = false) ∧ (Instr.next (.pointer (some ⟨r, 0, none⟩)) false ty).run Tryz.prog w = .ok (.tuple #[.bool false]) w) ∨
    ∃ a x w' cnt', (∃ kl, keyOf Tryz.prog k (kv a) = some kl) ∧ left a = true ∧ m a = some x ∧ (Instr.next (.pointer (some ⟨r, 0, none⟩)) false ty).run Tryz.prog w = .ok (.tuple #[.bool true, kv a, ev x]) w' ∧
      RngIn w' k b r n kv ev m (fun a' => left a' && !decide (a' = a)) cnt' ∧ cnt' < cnt ∧ w.grownBy w' (some r) ∧ w'.heap.size = w.heap.size ∧ (Instr.entry (.pointer (some ⟨r, 0, none⟩))).run Tryz.prog w' = .ok (.tuple #[kv a, ev x]) w' := by
  obtain ⟨D, L, hr, h1, h2, h3⟩ := h.ex
  rcases hr.next K ty with ⟨h0, hl, hrun⟩ | ⟨key, v, kl, y, w', cnt', hkey, hlk, hv, hat, hrun, hrg, hlt, hgr, hsz, hen⟩
  · exact Or.inl ⟨h0, fun a kl hk => (h3 a kl hk).trans (hl kl), hrun⟩
  · obtain ⟨a, x, ha, hx⟩ := h2 kl (ranges_has hr K hlk)
    have e1 : key = kv a := K.inj hkey ha
    subst e1
    have e2 : v = ev x := by
      have a1 := (h1 a kl ha).2 x hx (.held (ev x))
      rw [hat] at a1
      have a2 : y = (.held v, []) := (Option.some.inj hv).symm
      rw [a2] at a1
      exact DataW.held.inj a1
    subst e2
    refine Or.inr ⟨a, x, w', cnt', ⟨kl, ha⟩, (h3 a kl ha).trans hlk, hx, hrun, ⟨D, _, hrg, h1, h2, fun a' kl' hk' => ?_⟩, hlt, hgr, hsz, hen⟩
    show (left a' && !decide (a' = a)) = (L kl' && !kl'.sameKey kl)
    rw [h3 a' kl' hk']
    congr 2
    by_cases c : a' = a
    · subst c
      rw [ha] at hk'
      cases hk'
      rw [WideAt.sameKey_self (K.key ha)]
      simp
    · have : kl'.sameKey kl = false := by
        cases hs : kl'.sameKey kl
        · rfl
        · have e := WideAt.sameKey_eq hs
          subst e
          exact absurd (hinj _ _ (K.inj hk' ha)) c
      rw [this]; simp [c]
/-- The step at the operation, for the walk. -/
theorem wpList_next_in [DecidableEq α] {ops : Array Oper} {rest : List Oper} {o : Oper} {a : Act} {Q : Exit → Act → World → Prop} (hg : o.guard = none) (it : Operand) (hop : o.op = Op.next it false) (K : Keyed Tryz.prog k) (hinj : ∀ a a', kv a = kv a' → a = a') (hit : a.eval it = .pointer (some ⟨r, 0, none⟩)) (h : RngIn w k b r n kv ev m left cnt)
    (hDone : cnt = 0 → (∀ a kl, keyOf Tryz.prog k (kv a) = some kl → left a = false) → wpList Tryz.prog ops Q rest (a.put o.dst (.tuple #[.bool false])) w)
    (hMore : ∀ (x : α) (y : β) (w' : World) (cnt' : Nat), (∃ kl, keyOf Tryz.prog k (kv x) = some kl) → left x = true → m x = some y → RngIn w' k b r n kv ev m (fun a' => left a' && !decide (a' = x)) cnt' → cnt' < cnt → w.grownBy w' (some r) → w'.heap.size = w.heap.size →
      (Instr.entry (.pointer (some ⟨r, 0, none⟩))).run Tryz.prog w' = .ok (.tuple #[kv x, ev y]) w' → wpList Tryz.prog ops Q rest (a.put o.dst (.tuple #[.bool true, kv x, ev y])) w') :
    wpList Tryz.prog ops Q (o :: rest) a w := by
  refine wpList_plain hg fun K' hK' => ?_
  unfold Oper.wp
  rcases h.next K hinj o.type with ⟨h0, hl, hrun⟩ | ⟨x, y, w', cnt', hkl, hlx, hmx, hrun, hrg, hlt, hgr, hsz, hen⟩
  · simp [execOp, hop, hit, hrun, Result.andThen]
    exact hK' _ _ (hDone h0 hl)
  · simp [execOp, hop, hit, hrun, Result.andThen]
    exact hK' _ _ (hMore x y w' cnt' hkl hlx hmx hrg hlt hgr hsz hen)
end

end Go.Proofs.YtiplgdkpnhamaaaGreatDoor

/- Rows that are cut: clear(s[i:]) and s[:i]; maps at the walk's operations. -/
namespace Go.Proofs.YtiplgdkpnhamaaaGreatDoor
open Go.RowKit
open Go.Maps (Keyed)

theorem zero_len (z : Array Value) (n : Nat) : (Builtin.zeroCells z n).toList.length = n * z.size := by simp [Builtin.zeroCells]
theorem zero_one {z : Array Value} (h : ∀ u ∈ z.toList, u.oneCell' = true) (n : Nat) : ∀ u ∈ (Builtin.zeroCells z n).toList, u.oneCell' = true := by
  intro u hu
  simp only [Builtin.zeroCells, Array.toList_map, List.mem_map] at hu
  obtain ⟨i, hi, rfl⟩ := hu
  have hi' : i < n * z.size := by simpa using hi
  have hz : 0 < z.size := by
    rcases Nat.eq_zero_or_pos z.size with c | c
    · rw [c] at hi'; omega
    · exact c
  have hm := Nat.mod_lt i hz
  rw [getElem!_pos z _ hm]
  exact h _ (by simp)
theorem clear_row {P : Program} {w : World} {e t ty : TypeId} {size g n cap i : Nat} {xs : List Value} {z : Value} (ht : P.underlying t = some (.slice e)) (hv : ∀ w, (zeroValue e).run P w = .ok z w) (hzs : z.cells.size = size) (h1 : ∀ u ∈ z.cells.toList, u.oneCell' = true)
    (hrow : Row w e size (.slice (some ⟨g, 0, none⟩) n cap) n xs) (hi : i < n) :
    ∃ w', (Builtin.clear_ #[t] ty #[.slice (some ⟨g, i * size, none⟩) (n - i) (cap - i)]).run P w = .ok (.tuple #[]) w' ∧ Row w' e size (.slice (some ⟨g, 0, none⟩) i cap) i (xs.take (i * size)) ∧ w.grownBy w' (some g) := by
  rcases hrow.2 with ⟨h', -⟩ | ⟨g', cap', cur, h', -, hg, hnc, hcm, hcs, htake⟩
  · cases h'
  · cases h'
    have hlen := zero_len z.cells (n - i)
    rw [hzs] at hlen
    have hle : i * size + (n - i) * size ≤ cap * size := by rw [← Nat.add_mul]; exact Nat.mul_le_mul_right _ (by omega)
    have hin : i * size ≤ n * size := Nat.mul_le_mul_right _ (by omega)
    have hst := run_storeCells_at (P := P) g (i * size) e (Builtin.zeroCells z.cells (n - i)).toList 0 cur w hg (by rw [hlen, hcs]; omega) (zero_one h1 _)
    rw [Nat.add_zero] at hst
    refine ⟨w.setRow g (cur.toList.take (i * size) ++ (Builtin.zeroCells z.cells (n - i)).toList ++ cur.toList.drop (i * size + (Builtin.zeroCells z.cells (n - i)).toList.length)).toArray, ?_, ⟨?_, .inr ⟨g, cap, _, rfl, Nat.zero_le _, setRow_heap w g cur _ e _ hg, by omega, hcm, ?_, ?_⟩⟩, ⟨rfl, rfl, rfl, by simp, fun k _ hk => setRow_other w g k _ (fun e => hk (by rw [e]))⟩⟩
    · obtain ⟨m, hm⟩ : ∃ m, n - i = m + 1 := ⟨n - i - 1, by omega⟩
      rw [hm] at hst ⊢
      simp [Builtin.clear_, run_underlying ht, hv, hst]
    · rw [List.length_take, hrow.1]; omega
    · rw [List.size_toArray, List.length_append, List.length_append, hlen, List.length_take, List.length_drop, Array.length_toList, hcs]; omega
    · show ((cur.toList.take (i * size) ++ (Builtin.zeroCells z.cells (n - i)).toList) ++ cur.toList.drop (i * size + (Builtin.zeroCells z.cells (n - i)).toList.length)).take (i * size) = xs.take (i * size)
      rw [List.append_assoc, List.take_append_of_le_length (by rw [List.length_take, Array.length_toList, hcs]; omega), ← htake, List.take_take, List.take_take]
      congr 1; omega
section
variable {P : Program} {ops : Array Oper} {rest : List Oper} {o : Oper} {a : Act} {Q : Exit → Act → World → Prop} {w : World}
theorem wpList_clear_in {e t : TypeId} {size g n cap i : Nat} {xs : List Value} {z : Value} (hg : o.guard = none) (s : Operand) (hop : o.op = Op.call { callee := Callee.builtin Builtin.clear, args := #[s], argTypes := #[t] })
    (ht : P.underlying t = some (.slice e)) (hv : ∀ w, (zeroValue e).run P w = .ok z w) (hzs : z.cells.size = size) (h1 : ∀ u ∈ z.cells.toList, u.oneCell' = true) (hs : a.eval s = .slice (some ⟨g, i * size, none⟩) (n - i) (cap - i))
    (hrow : Row w e size (.slice (some ⟨g, 0, none⟩) n cap) n xs) (hi : i < n) (hK : ∀ w', Row w' e size (.slice (some ⟨g, 0, none⟩) i cap) i (xs.take (i * size)) → w.grownBy w' (some g) → wpList P ops Q rest (a.put o.dst (.tuple #[])) w') : wpList P ops Q (o :: rest) a w := by
  refine wpList_plain hg fun K' hK' => ?_
  obtain ⟨w', hrun, h2, h3⟩ := clear_row (P := P) (ty := o.type) ht hv hzs h1 hrow hi
  unfold Oper.wp execOp
  simp only [hop, resolve, invoke, builtin, Sem.run_bind, Sem.run_pure, Result.andThen_ok, List.map_toArray, List.map_cons, List.map_nil, hs, hrun]
  exact hK' _ _ (hK w' h2 h3)
end
section
variable {α β : Type} {ops : Array Oper} {rest : List Oper} {o : Oper} {a : Act} {Q : Exit → Act → World → Prop} {w : World} {k t e : TypeId} {b n : Nat} {kv : α → Value} {ev : β → Value} {m : α → Option β}
theorem wpList_drop_in [DecidableEq α] (hg : o.guard = none) (s x : Operand) (hop : o.op = Op.call { callee := Callee.builtin Builtin.delete, args := #[s, x], argTypes := #[t, k] }) (K : Keyed Tryz.prog k) (ht : Tryz.prog.underlying t = some (.map k e)) (hinj : ∀ a a', kv a = kv a' → a = a')
    (hs : a.eval s = .map (some b)) (y : α) (hx : a.eval x = kv y) {kl : Lit} (hkey : keyOf Tryz.prog k (kv y) = some kl) (h : MapIn w k b n kv ev m)
    (hK : ∀ w', MapIn w' k b n kv ev (fun a' => if a' = y then none else m a') → w.grownBy w' (some b) → wpList Tryz.prog ops Q rest (a.put o.dst (.tuple #[])) w') : wpList Tryz.prog ops Q (o :: rest) a w := by
  refine wpList_plain hg fun K' hK' => ?_
  obtain ⟨w', hrun, h2, h3⟩ := h.drop K ht hinj hkey o.type
  unfold Oper.wp execOp
  simp only [hop, resolve, invoke, builtin, Sem.run_bind, Sem.run_pure, Result.andThen_ok, List.map_toArray, List.map_cons, List.map_nil, hs, hx, hrun]
  exact hK' _ _ (hK w' h2 h3)
end

end Go.Proofs.YtiplgdkpnhamaaaGreatDoor

/- What is told hangs on which transactions are visible, not on the order in which they became so: counters and registers. -/
namespace Go.Proofs.YtiplgdkpnhamaaaGreatDoor
open Go.RowKit

theorem seesV_mono {v vis : List Int} (h : ∀ r, v.getD r 0 ≤ vis.getD r 0) {r s : Int} (hs : seesV v r s = true) : seesV vis r s = true := by
  unfold seesV at hs ⊢
  rw [decide_eq_true_eq] at hs ⊢
  exact Int.le_trans hs (h _)

/-- Any of them. -/
theorem foldl_any {α : Type} (f : α → Bool) : ∀ (l : List α) (b : Bool), l.foldl (fun acc u => acc || f u) b = (b || l.any f)
  | [], b => by simp
  | a :: l, b => by simp [foldl_any f l, Bool.or_assoc]
theorem overOf_any (v : List Int) (key : ByteArray) (t : RTx) (l : List RTx) : overOf v key t l = l.any fun u => seesV v u.rep u.seq && seesV u.saw t.rep t.seq && (lastOf key noEl u.ops).isSome := by
  unfold overOf
  have e : overStep v key t = fun acc u => acc || (seesV v u.rep u.seq && seesV u.saw t.rep t.seq && (lastOf key noEl u.ops).isSome) := by funext acc u; rfl
  rw [e, foldl_any]; simp
theorem goneOf_any (v : List Int) (key el : ByteArray) (t : RTx) (l : List RTx) : goneOf v key el t l = l.any fun u => seesV v u.rep u.seq && seesV u.saw t.rep t.seq && (lastOf key el u.ops).isSome && decide (lastKind (lastOf key el u.ops) = 4) := by
  unfold goneOf
  have e : goneStep v key el t = fun acc u => acc || (seesV v u.rep u.seq && seesV u.saw t.rep t.seq && (lastOf key el u.ops).isSome && decide (lastKind (lastOf key el u.ops) = 4)) := by funext acc u; rfl
  rw [e, foldl_any]; simp
theorem any_same {α : Type} {f g : α → Bool} {l ts : List α} (hp : l.Perm (ts.filter g)) (hfg : ∀ u, f u = true → g u = true) : l.any f = ts.any f := by
  rw [Bool.eq_iff_iff, List.any_eq_true, List.any_eq_true]
  constructor
  · rintro ⟨u, hu, hf⟩
    exact ⟨u, (List.mem_filter.1 (hp.mem_iff.1 hu)).1, hf⟩
  · rintro ⟨u, hu, hf⟩
    exact ⟨u, hp.mem_iff.2 (List.mem_filter.2 ⟨hu, hfg u hf⟩), hf⟩
theorem over_same {v vis : List Int} {key : ByteArray} {t : RTx} {l ts : List RTx} (hp : l.Perm (ts.filter fun u => seesV vis u.rep u.seq)) (hv : ∀ r, v.getD r 0 ≤ vis.getD r 0) : overOf v key t l = overOf v key t ts := by
  rw [overOf_any, overOf_any]
  exact any_same hp fun u hu => seesV_mono hv (by simp only [Bool.and_eq_true] at hu; exact hu.1.1)
theorem gone_same {v vis : List Int} {key el : ByteArray} {t : RTx} {l ts : List RTx} (hp : l.Perm (ts.filter fun u => seesV vis u.rep u.seq)) (hv : ∀ r, v.getD r 0 ≤ vis.getD r 0) : goneOf v key el t l = goneOf v key el t ts := by
  rw [goneOf_any, goneOf_any]
  exact any_same hp fun u hu => seesV_mono hv (by simp only [Bool.and_eq_true] at hu; exact hu.1.1.1)

/-- A counter, without the wrapping round. -/
def csum (v : List Int) (key : ByteArray) (l : List RTx) : Int := (l.map fun t => if seesV v t.rep t.seq then sumOf key t.ops else 0).sum
theorem wrap_add (a b : Int) : wrap64 (wrap64 a + b) = wrap64 (a + b) := by unfold wrap64; omega
theorem counter_csum (v : List Int) (key : ByteArray) (l : List RTx) : counterOf v key l = wrap64 (csum v key l) := by
  have : ∀ (l : List RTx) (a : Int), l.foldl (fun n t => if seesV v t.rep t.seq then wrap64 (n + sumOf key t.ops) else n) (wrap64 a) = wrap64 (a + csum v key l) := by
    intro l
    induction l with
    | nil => intro a; simp [csum]
    | cons t l ih =>
      intro a
      rw [List.foldl_cons]
      have e : csum v key (t :: l) = (if seesV v t.rep t.seq then sumOf key t.ops else 0) + csum v key l := by simp [csum]
      rw [e]
      by_cases h : seesV v t.rep t.seq = true
      · rw [if_pos h, if_pos h, wrap_add, ih, Int.add_assoc]
      · rw [if_neg h, if_neg h, ih]; congr 1; omega
  have h := this l 0
  rw [Int.zero_add, show wrap64 0 = 0 by unfold wrap64; omega] at h
  exact h
theorem sum_perm {l l' : List Int} (h : l.Perm l') : l.sum = l'.sum := by
  induction h with
  | nil => rfl
  | cons x _ ih => simp [ih]
  | swap x y l => simp; omega
  | trans _ _ h1 h2 => exact h1.trans h2
theorem csum_filter (v vis : List Int) (key : ByteArray) (hv : ∀ r, v.getD r 0 ≤ vis.getD r 0) : ∀ ts : List RTx, csum v key (ts.filter fun u => seesV vis u.rep u.seq) = csum v key ts
  | [] => rfl
  | t :: ts => by
    have ih := csum_filter v vis key hv ts
    have e : csum v key (t :: ts) = (if seesV v t.rep t.seq then sumOf key t.ops else 0) + csum v key ts := by simp [csum]
    rw [e, List.filter_cons]
    by_cases h : seesV vis t.rep t.seq = true
    · rw [if_pos h]
      have e2 : csum v key (t :: ts.filter fun u => seesV vis u.rep u.seq) = (if seesV v t.rep t.seq then sumOf key t.ops else 0) + csum v key (ts.filter fun u => seesV vis u.rep u.seq) := by simp [csum]
      rw [e2, ih]
    · rw [if_neg h, ih, if_neg (fun c => h (seesV_mono hv c))]; omega
theorem counter_same {v vis : List Int} {key : ByteArray} {l ts : List RTx} (hp : l.Perm (ts.filter fun u => seesV vis u.rep u.seq)) (hv : ∀ r, v.getD r 0 ≤ vis.getD r 0) : counterOf v key l = counterOf v key ts := by
  rw [counter_csum, counter_csum, ← csum_filter v vis key hv ts]
  congr 1
  exact sum_perm (hp.map _)

/-- A dot is found alike. -/
theorem uniq_eq {ts : List RTx} (hu : ts.Pairwise fun u v => ¬ (u.rep = v.rep ∧ u.seq = v.seq)) {a b : RTx} (ha : a ∈ ts) (hb : b ∈ ts) (h : a.rep = b.rep ∧ a.seq = b.seq) : a = b := by
  obtain ⟨i, hi, rfl⟩ := List.mem_iff_getElem.1 ha
  obtain ⟨j, hj, rfl⟩ := List.mem_iff_getElem.1 hb
  rw [List.pairwise_iff_getElem] at hu
  rcases Nat.lt_trichotomy i j with c | c | c
  · exact absurd h (hu i j hi hj c)
  · subst c; rfl
  · exact absurd ⟨h.1.symm, h.2.symm⟩ (hu j i hj hi c)
theorem find_one {l ts : List RTx} (hu : ts.Pairwise fun u v => ¬ (u.rep = v.rep ∧ u.seq = v.seq)) (hsub : ∀ u, u ∈ l → u ∈ ts) {r s : Int} {u : RTx} (hul : u ∈ l) (hd : isDot r s u = true) : findTx l r s = u := by
  obtain ⟨i, hi, h1, -, h3⟩ := findTx_at ⟨u, hul, hd⟩
  rw [h3]
  unfold isDot at h1 hd
  rw [decide_eq_true_eq] at h1 hd
  exact uniq_eq hu (hsub _ (List.getElem_mem hi)) (hsub u hul) ⟨h1.1.trans hd.1.symm, h1.2.trans hd.2.symm⟩
theorem regRow_same {v vis : List Int} {key : ByteArray} {l ts : List RTx} {r : Nat} (hp : l.Perm (ts.filter fun u => seesV vis u.rep u.seq)) (hv : ∀ r, v.getD r 0 ≤ vis.getD r 0) (hu : ts.Pairwise fun u v => ¬ (u.rep = v.rep ∧ u.seq = v.seq))
    (hfull : ∀ s : Nat, (s : Int) + 1 ≤ vis.getD r 0 → ∃ u, u ∈ ts ∧ isDot (r : Int) ((s : Int) + 1) u = true) : ∀ m : Nat, (m : Int) ≤ v.getD r 0 → regRow v key l r m = regRow v key ts r m
  | 0, _ => rfl
  | m + 1, hm => by
    rw [regRow_succ, regRow_succ, regRow_same hp hv hu hfull m (by omega)]
    congr 1
    have hvr := hv r
    obtain ⟨u, hut, hd⟩ := hfull m (by omega)
    have hd' := hd
    unfold isDot at hd'
    rw [decide_eq_true_eq] at hd'
    have hul : u ∈ l := hp.mem_iff.2 (List.mem_filter.2 ⟨hut, by
      unfold seesV
      rw [decide_eq_true_eq, hd'.1, hd'.2]
      simp only [Int.toNat_natCast]
      omega⟩)
    rw [find_one hu (fun x hx => (List.mem_filter.1 (hp.mem_iff.1 hx)).1) hul hd, find_one hu (fun x hx => hx) hut hd]
    unfold regAt
    rw [over_same hp hv]
theorem register_same {v vis : List Int} {key : ByteArray} {l ts : List RTx} (hp : l.Perm (ts.filter fun u => seesV vis u.rep u.seq)) (hv : ∀ r, v.getD r 0 ≤ vis.getD r 0) (hu : ts.Pairwise fun u v => ¬ (u.rep = v.rep ∧ u.seq = v.seq)) (n : Nat)
    (hfull : ∀ r, r < n → ∀ s : Nat, (s : Int) + 1 ≤ vis.getD r 0 → ∃ u, u ∈ ts ∧ isDot (r : Int) ((s : Int) + 1) u = true) (hpos : ∀ r, 0 ≤ v.getD r 0) : ∀ k, k ≤ n → registerOf v key l k = registerOf v key ts k
  | 0, _ => rfl
  | k + 1, hk => by
    have h0 := hpos k
    rw [registerOf_succ, registerOf_succ, register_same hp hv hu n hfull hpos k (by omega), regRow_same hp hv hu (hfull k (by omega)) _ (by omega)]

end Go.Proofs.YtiplgdkpnhamaaaGreatDoor

/- Lists of which those are struck that a predicate holds of: plain steps. -/
namespace Go.Proofs.YtiplgdkpnhamaaaGreatDoor
open Go.RowKit

/-- The place of the first, or -1. -/
def idxP {α : Type} (p : α → Bool) (l : List α) : Int := match l.findIdx? p with | some k => (k : Int) | none => -1
theorem idxP_none {α : Type} {p : α → Bool} {l : List α} (h : ∀ j (hj : j < l.length), p l[j] = false) : idxP p l = -1 := by
  unfold idxP
  have : l.findIdx? p = none := by
    rw [List.findIdx?_eq_none_iff]
    intro x hx
    obtain ⟨j, hj, rfl⟩ := List.mem_iff_getElem.1 hx
    exact h j hj
  rw [this]
theorem idxP_some {α : Type} {p : α → Bool} {l : List α} {k : Nat} (hk : k < l.length) (hp : p l[k] = true) (h : ∀ j (hj : j < l.length), j < k → p l[j] = false) : idxP p l = k := by
  unfold idxP
  have : l.findIdx? p = some k := by
    rw [List.findIdx?_eq_some_iff_getElem]
    exact ⟨hk, hp, fun j hj => by simp [h j (by omega) hj]⟩
  rw [this]
theorem idxP_cases {α : Type} (p : α → Bool) (l : List α) : (idxP p l = -1 ∧ l.filter (fun x => !p x) = l) ∨ ∃ k, ∃ hk : k < l.length, idxP p l = k ∧ p l[k] = true ∧ (l.take k).filter (fun x => !p x) = l.take k := by
  unfold idxP
  cases e : l.findIdx? p with
  | none =>
    refine Or.inl ⟨rfl, ?_⟩
    rw [List.filter_eq_self]
    intro a ha
    rw [List.findIdx?_eq_none_iff] at e
    simp [e a ha]
  | some k =>
    rw [List.findIdx?_eq_some_iff_getElem] at e
    obtain ⟨hk, hp, hno⟩ := e
    refine Or.inr ⟨k, hk, rfl, hp, ?_⟩
    rw [List.filter_eq_self]
    intro a ha
    obtain ⟨j, hj, rfl⟩ := List.mem_iff_getElem.1 ha
    rw [List.length_take] at hj
    rw [List.getElem_take]
    have := hno j (by omega)
    simpa using this
/-- On the way: the first i of xs are what is left of the first j of l; from j on xs is l. -/
structure Str {α : Type} (p : α → Bool) (l xs : List α) (i j : Nat) : Prop where
  lt : i < j
  le : j ≤ l.length
  len : xs.length = l.length
  low : xs.take i = (l.take j).filter fun x => !p x
  high : ∀ k (hk : k < l.length), j ≤ k → xs[k]? = some l[k]
section
variable {α : Type} {p : α → Bool} {l xs : List α} {i j k : Nat}
theorem Str.start (hk : k < l.length) (hp : p l[k] = true) (h : (l.take k).filter (fun x => !p x) = l.take k) : Str p l l k (k + 1) := by
  refine ⟨by omega, by omega, rfl, ?_, fun q hq _ => by simp [hq]⟩
  rw [List.take_succ_eq_append_getElem hk, List.filter_append, h]
  simp [hp]
theorem Str.keep (h : Str p l xs i j) (hj : j < l.length) (hp : p l[j] = false) : Str p l (xs.set i l[j]) (i + 1) (j + 1) := by
  have hlt := h.lt
  have hlen := h.len
  refine ⟨by omega, by omega, by rw [List.length_set]; exact hlen, ?_, fun q hq hle => ?_⟩
  · rw [List.take_succ_eq_append_getElem (by rw [List.length_set]; omega), List.take_set_of_le (by omega), h.low, List.take_succ_eq_append_getElem hj, List.filter_append]
    simp [hp]
  · rw [List.getElem?_set_ne (by omega)]; exact h.high q hq (by omega)
theorem Str.skip (h : Str p l xs i j) (hj : j < l.length) (hp : p l[j] = true) : Str p l xs i (j + 1) := by
  have hlt := h.lt
  refine ⟨by omega, by omega, h.len, ?_, fun q hq hle => h.high q hq (by omega)⟩
  rw [h.low, List.take_succ_eq_append_getElem hj, List.filter_append]
  simp [hp]
theorem Str.done (h : Str p l xs i l.length) : xs.take i = l.filter (fun x => !p x) ∧ i = (l.filter fun x => !p x).length ∧ i < l.length := by
  have h1 := h.low
  rw [List.take_length] at h1
  have hlt := h.lt
  have hlen := h.len
  refine ⟨h1, ?_, hlt⟩
  rw [← h1, List.length_take]; omega
end
theorem flat_take {α : Type} (f : α → List Value) (s : Nat) (hf : ∀ a, (f a).length = s) : ∀ (l : List α) (i : Nat), (l.flatMap f).take (i * s) = (l.take i).flatMap f
  | [], i => by simp
  | a :: l, 0 => by simp
  | a :: l, i + 1 => by
    have ih := flat_take f s hf l i
    rw [List.take_succ_cons, List.flatMap_cons, List.flatMap_cons, List.take_append, hf, List.take_of_length_le (by rw [hf, Nat.add_mul]; omega), ← ih]
    congr 2
    rw [Nat.add_mul]; omega

end Go.Proofs.YtiplgdkpnhamaaaGreatDoor

/- What is told hangs on which transactions are visible, not on the order in which they became so: sets. -/
namespace Go.Proofs.YtiplgdkpnhamaaaGreatDoor
open Go.RowKit

theorem less_irr : ∀ a : List UInt8, Op.bytesLess a a = false
  | [] => rfl
  | x :: a => by simp [Op.bytesLess, less_irr a]
theorem less_trans : ∀ {a b c : List UInt8}, Op.bytesLess a b = true → Op.bytesLess b c = true → Op.bytesLess a c = true
  | _, [], _, h, _ => by simp [Op.bytesLess] at h
  | _, _ :: _, [], _, h => by simp [Op.bytesLess] at h
  | [], _ :: _, _ :: _, _, _ => rfl
  | x :: a, y :: b, z :: c, h1, h2 => by
    simp only [Op.bytesLess, Bool.or_eq_true, decide_eq_true_eq, Bool.and_eq_true, beq_iff_eq] at h1 h2 ⊢
    rcases h1 with h1 | ⟨rfl, h1⟩
    · rcases h2 with h2 | ⟨rfl, h2⟩
      · exact Or.inl (UInt8.lt_trans h1 h2)
      · exact Or.inl h1
    · rcases h2 with h2 | ⟨rfl, h2⟩
      · exact Or.inl h2
      · exact Or.inr ⟨rfl, less_trans h1 h2⟩
theorem less_total : ∀ a b : List UInt8, a = b ∨ Op.bytesLess a b = true ∨ Op.bytesLess b a = true
  | [], [] => Or.inl rfl
  | [], _ :: _ => Or.inr (Or.inl rfl)
  | _ :: _, [] => Or.inr (Or.inr rfl)
  | x :: a, y :: b => by
    by_cases e : x = y
    · subst e
      rcases less_total a b with h | h | h
      · left; rw [h]
      · right; left; simp [Op.bytesLess, h]
      · right; right; simp [Op.bytesLess, h]
    · rcases Nat.lt_or_gt_of_ne (fun c => e (UInt8.toNat_inj.1 c)) with h | h
      · right; left; simp [Op.bytesLess, UInt8.lt_iff_toNat_lt.2 h]
      · right; right; simp [Op.bytesLess, UInt8.lt_iff_toNat_lt.2 h]
theorem toL_inj {a b : ByteArray} (h : a.toList = b.toList) : a = b := str_eq.1 (by rw [h]; simp)
theorem strLt_irr (a : ByteArray) : strLt a a = false := less_irr _
theorem strLt_trans {a b c : ByteArray} (h1 : strLt a b = true) (h2 : strLt b c = true) : strLt a c = true := less_trans h1 h2
theorem strLt_total (a b : ByteArray) : a = b ∨ strLt a b = true ∨ strLt b a = true := (less_total a.toList b.toList).imp toL_inj id

/-- In the order of bytes, each once. -/
def Rising (l : List ByteArray) : Prop := l.Pairwise fun a b => strLt a b = true
theorem rising_ext : ∀ {l m : List ByteArray}, Rising l → Rising m → (∀ a, a ∈ l ↔ a ∈ m) → l = m
  | [], [], _, _, _ => rfl
  | [], b :: m, _, _, h => by have := (h b).2 (by simp); simp at this
  | a :: l, [], _, _, h => by have := (h a).1 (by simp); simp at this
  | a :: l, b :: m, hl, hm, h => by
    obtain ⟨ha, hl'⟩ := List.pairwise_cons.1 hl
    obtain ⟨hb, hm'⟩ := List.pairwise_cons.1 hm
    have e : a = b := by
      rcases List.mem_cons.1 ((h a).1 (by simp)) with c | c
      · exact c
      · rcases List.mem_cons.1 ((h b).2 (by simp)) with c' | c'
        · exact c'.symm
        · have x := strLt_trans (ha b c') (hb a c)
          rw [strLt_irr] at x; cases x
    subst e
    congr 1
    refine rising_ext hl' hm' fun x => ⟨fun hx => ?_, fun hx => ?_⟩
    · rcases List.mem_cons.1 ((h x).1 (by simp [hx])) with c | c
      · subst c; have y := ha x hx; rw [strLt_irr] at y; cases y
      · exact c
    · rcases List.mem_cons.1 ((h x).2 (by simp [hx])) with c | c
      · subst c; have y := hb x hx; rw [strLt_irr] at y; cases y
      · exact c
theorem place_spec (L : List ByteArray) (s : ByteArray) (hr : Rising L) (hs : ∀ a, a ∈ L → a ≠ s) : ∀ k, k ≤ L.length → place L s k ≤ k ∧ (∀ j (h : j < L.length), j < place L s k → strLt L[j] s = true) ∧ (∀ j (h : j < L.length), place L s k ≤ j → j < k → strLt s L[j] = true)
  | 0, _ => ⟨Nat.le_refl _, fun j _ h => by simp [place] at h, fun j _ _ h => by omega⟩
  | k + 1, hk => by
    have hkl : k < L.length := by omega
    have hg : L.getD k noEl = L[k] := by simp [hkl]
    obtain ⟨i1, i2, i3⟩ := place_spec L s hr hs k (by omega)
    unfold place
    rw [hg]
    split
    · rename_i hlt
      refine ⟨by omega, i2, fun j hj h1 h2 => ?_⟩
      by_cases c : j = k
      · subst c; exact hlt
      · exact i3 j hj h1 (by omega)
    · rename_i hlt
      refine ⟨Nat.le_refl _, fun j hj h => ?_, fun j _ h1 h2 => by omega⟩
      have hk' : strLt L[k] s = true := by
        rcases strLt_total L[k] s with c | c | c
        · exact absurd c (hs _ (List.getElem_mem hkl))
        · exact c
        · exact absurd c hlt
      by_cases c : j = k
      · subst c; exact hk'
      · exact strLt_trans ((List.pairwise_iff_getElem.1 hr) j k hj hkl (by omega)) hk'
theorem withOf_spec {L : List ByteArray} (hr : Rising L) (s : ByteArray) : Rising (withOf L s) ∧ ∀ a, a ∈ withOf L s ↔ a ∈ L ∨ a = s := by
  unfold withOf
  split
  · rename_i h
    obtain ⟨a, ha, hd⟩ := List.any_eq_true.1 h
    have e := of_decide_eq_true hd
    subst e
    exact ⟨hr, fun x => ⟨Or.inl, fun c => c.elim id (fun e => e ▸ ha)⟩⟩
  · rename_i h
    have hs : ∀ a, a ∈ L → a ≠ s := fun a ha e => h (List.any_eq_true.2 ⟨a, ha, by simp [e]⟩)
    obtain ⟨p1, p2, p3⟩ := place_spec L s hr hs L.length (Nat.le_refl _)
    generalize place L s L.length = k at *
    refine ⟨?_, fun a => ?_⟩
    · unfold insAt Rising
      rw [List.pairwise_append]
      refine ⟨hr.sublist (List.take_sublist _ _), List.pairwise_cons.2 ⟨fun b hb => ?_, hr.sublist (List.drop_sublist _ _)⟩, fun a ha b hb => ?_⟩
      · obtain ⟨i, hi, rfl⟩ := List.mem_drop_iff_getElem.1 hb
        exact p3 _ (by omega) (by omega) (by omega)
      · obtain ⟨i, hi, rfl⟩ := List.mem_take_iff_getElem.1 ha
        have hik : i < k := by omega
        rcases List.mem_cons.1 hb with c | c
        · subst c; exact p2 i (by omega) hik
        · obtain ⟨j, hj, rfl⟩ := List.mem_drop_iff_getElem.1 c
          exact (List.pairwise_iff_getElem.1 hr) i _ (by omega) (by omega) (by omega)
    · unfold insAt
      rw [List.mem_append, List.mem_cons]
      constructor
      · rintro (c | c | c)
        · exact Or.inl (List.mem_of_mem_take c)
        · exact Or.inr c
        · exact Or.inl (List.mem_of_mem_drop c)
      · rintro (c | c)
        · rw [← List.take_append_drop k L, List.mem_append] at c
          exact c.elim Or.inl (fun d => Or.inr (Or.inr d))
        · exact Or.inr (Or.inl c)
/-- What is put in, one by one. -/
theorem setEls_spec (v : List Int) (key : ByteArray) (ts : List RTx) (t : RTx) : ∀ (es acc : List ByteArray), Rising acc → Rising (es.foldl (setEl v key ts t) acc) ∧ ∀ a, a ∈ es.foldl (setEl v key ts t) acc ↔ a ∈ acc ∨ (a ∈ es ∧ lastKind (lastOf key a t.ops) = 3 ∧ goneOf v key a t ts = false)
  | [], acc, h => ⟨h, fun a => by simp⟩
  | e :: es, acc, h => by
    have step : Rising (setEl v key ts t acc e) ∧ ∀ a, a ∈ setEl v key ts t acc e ↔ a ∈ acc ∨ (a = e ∧ lastKind (lastOf key e t.ops) = 3 ∧ goneOf v key e t ts = false) := by
      unfold setEl
      split
      · rename_i h3
        split
        · rename_i hg
          exact ⟨h, fun a => by simp [hg]⟩
        · rename_i hg
          obtain ⟨r, m⟩ := withOf_spec h e
          refine ⟨r, fun a => ?_⟩
          rw [m]
          have hg' : goneOf v key e t ts = false := by simpa using hg
          simp [h3, hg']
      · rename_i h3
        exact ⟨h, fun a => by simp [h3]⟩
    obtain ⟨r, m⟩ := setEls_spec v key ts t es _ step.1
    refine ⟨r, fun a => ?_⟩
    rw [List.foldl_cons, m, step.2, List.mem_cons]
    constructor
    · rintro ((c | ⟨rfl, c2, c3⟩) | ⟨c1, c2, c3⟩)
      · exact Or.inl c
      · exact Or.inr ⟨Or.inl rfl, c2, c3⟩
      · exact Or.inr ⟨Or.inr c1, c2, c3⟩
    · rintro (c | ⟨c1 | c1, c2, c3⟩)
      · exact Or.inl (Or.inl c)
      · subst c1; exact Or.inl (Or.inr ⟨rfl, c2, c3⟩)
      · exact Or.inr ⟨c1, c2, c3⟩
theorem setTxs_spec (v : List Int) (key : ByteArray) (ts : List RTx) : ∀ (us : List RTx) (acc : List ByteArray), Rising acc → Rising (us.foldl (setTx v key ts) acc) ∧ ∀ a, a ∈ us.foldl (setTx v key ts) acc ↔ a ∈ acc ∨ ∃ t, t ∈ us ∧ seesV v t.rep t.seq = true ∧ a ∈ elemsOf key t.ops ∧ lastKind (lastOf key a t.ops) = 3 ∧ goneOf v key a t ts = false
  | [], acc, h => ⟨h, fun a => by simp⟩
  | t :: us, acc, h => by
    have step : Rising (setTx v key ts acc t) ∧ ∀ a, a ∈ setTx v key ts acc t ↔ a ∈ acc ∨ (seesV v t.rep t.seq = true ∧ a ∈ elemsOf key t.ops ∧ lastKind (lastOf key a t.ops) = 3 ∧ goneOf v key a t ts = false) := by
      unfold setTx
      split
      · rename_i hs
        obtain ⟨r, m⟩ := setEls_spec v key ts t (elemsOf key t.ops) acc h
        exact ⟨r, fun a => by rw [m]; simp [hs]⟩
      · rename_i hs
        exact ⟨h, fun a => by simp [hs]⟩
    obtain ⟨r, m⟩ := setTxs_spec v key ts us _ step.1
    refine ⟨r, fun a => ?_⟩
    rw [List.foldl_cons, m, step.2]
    constructor
    · rintro ((c | c) | ⟨u, hu, c⟩)
      · exact Or.inl c
      · exact Or.inr ⟨t, by simp, c⟩
      · exact Or.inr ⟨u, by simp [hu], c⟩
    · rintro (c | ⟨u, hu, c⟩)
      · exact Or.inl (Or.inl c)
      · rcases List.mem_cons.1 hu with e | e
        · subst e; exact Or.inl (Or.inr c)
        · exact Or.inr ⟨u, e, c⟩
theorem set_same {v vis : List Int} {key : ByteArray} {l ts : List RTx} (hp : l.Perm (ts.filter fun u => seesV vis u.rep u.seq)) (hv : ∀ r, v.getD r 0 ≤ vis.getD r 0) : setOf v key l = setOf v key ts := by
  obtain ⟨r1, m1⟩ := setTxs_spec v key l l [] List.Pairwise.nil
  obtain ⟨r2, m2⟩ := setTxs_spec v key ts ts [] List.Pairwise.nil
  refine rising_ext r1 r2 fun a => ?_
  refine (m1 a).trans (Iff.trans ?_ (m2 a).symm)
  constructor
  · rintro (c | ⟨u, hu, h1, h2, h3, h4⟩)
    · simp at c
    · exact Or.inr ⟨u, (List.mem_filter.1 (hp.mem_iff.1 hu)).1, h1, h2, h3, by rw [← gone_same hp hv]; exact h4⟩
  · rintro (c | ⟨u, hu, h1, h2, h3, h4⟩)
    · simp at c
    · exact Or.inr ⟨u, hp.mem_iff.2 (List.mem_filter.2 ⟨hu, seesV_mono hv h1⟩), h1, h2, h3, by rw [gone_same hp hv]; exact h4⟩
theorem read_same {t : RTx} {vis : List Int} {key : ByteArray} {l ts : List RTx} {n : Nat} (hp : l.Perm (ts.filter fun u => seesV vis u.rep u.seq)) (hv : ∀ r, 0 ≤ t.saw.getD r 0 ∧ t.saw.getD r 0 ≤ vis.getD r 0) (hu : ts.Pairwise fun u v => ¬ (u.rep = v.rep ∧ u.seq = v.seq))
    (hfull : ∀ r, r < n → ∀ s : Nat, (s : Int) + 1 ≤ vis.getD r 0 → ∃ u, u ∈ ts ∧ isDot (r : Int) ((s : Int) + 1) u = true) : readAns (some t) key l n = readAns (some t) key ts n := by
  have hv' : ∀ r, t.saw.getD r 0 ≤ vis.getD r 0 := fun r => (hv r).2
  simp only [readAns, counter_same hp hv', set_same hp hv', register_same hp hv' hu n hfull (fun r => (hv r).1) n (Nat.le_refl _)]

end Go.Proofs.YtiplgdkpnhamaaaGreatDoor

/- The reference's Replica.Does: what it answers, and what becomes of the transaction. -/
namespace Go.Proofs.YtiplgdkpnhamaaaGreatDoor
open Go.RowKit

theorem Tryz.infoOp : (Tryz.prog.info? 171).map (fun i => (i.zero, i.size, i.bytes)) = some (some (.agg #[.int .i64 0, .string ⟨#[]⟩, .string ⟨#[]⟩, .int .i64 0]), 4, 48) := by kernel_rfl

set_option maxHeartbeats 1000000 in
theorem does_no (w : World) (b : Nat) (v : Value) (xs : List XTx) (tx : Int) (o : ROp) (hn : xs.length ≤ 6)
    (hv : w.cell? ⟨b, 2, none⟩ = some v) (hrow : Row w 217 5 v xs.length (xs.flatMap XTx.cells)) (hop : isOpenAt xs tx = false) :
    Calls Tryz.prog 93 #[.pointer (some ⟨b, 0, none⟩), .int .i64 tx, .agg #[.int .i64 o.kind, .string o.key, .string o.value, .int .i64 o.amount]] w fun e w' => e = .returned (.int .i64 4) ∧ Below w.heap.size w w' := by
  have hv' : (w.alloc (.cells #[.int .i64 o.kind, .string o.key, .string o.value, .int .i64 o.amount] 171)).cell? ⟨b, 2, none⟩ = some v := by
    rw [World.cell?_alloc_past _ _ _ (World.block_lt_of_cell? w _ hv)]; exact hv
  have HR := hide (hrow.alloc (.cells #[.int .i64 o.kind, .string o.key, .string o.value, .int .i64 o.amount] 171))
  have HV := hide hv'
  clear hrow hv hv'
  go_enter Tryz.func93, Tryz.ntmps93
  go_wp2_with fail
  refine (is_any _ b v xs tx (by omega) HV.out HR.out).mono ?_
  rintro e w1 ⟨rfl, rfl⟩
  go_wp2_with fail
  go_ret
  exact ⟨rfl, (Below.refl _ _).alloc (Nat.le_refl _) _⟩

set_option maxRecDepth 100000 in
set_option maxHeartbeats 1000000 in
theorem does1_key (w : World) (b : Nat) (v : Value) (xs : List XTx) (k : Nat) (key val : ByteArray) (amount : Int) (ops : List ROp) (hn : xs.length ≤ 6) (hk : k < xs.length) (hb : b < w.heap.size) (hkey : key.size ≤ maxLen) (_hval : val.size ≤ maxLen)
    (hv : w.cell? ⟨b, 2, none⟩ = some v) (hrow : Row w 217 5 v xs.length (xs.flatMap XTx.cells)) (hop : xs[k].isOpen = true) (_hfew : ops.length ≤ 16)
    (hops : Row w 171 4 xs[k].ov ops.length (ops.flatMap ROp.cells)) (hbad : ¬ kindOf key = 99) :
    Calls Tryz.prog 93 #[.pointer (some ⟨b, 0, none⟩), .int .i64 k, .agg #[.int .i64 1, .string key, .string val, .int .i64 amount]] w fun e w' => e = .returned (.int .i64 2) ∧ Below w.heap.size w w' := by
  obtain ⟨g, cap, rfl, hcap, hm, hg, hc, hf⟩ := hrow.pos (by omega)
  have h4 := hc (k * 5 + 4) (by omega)
  rw [flat_get _ 5 XTx.cells_len _ _ _ hk (by omega)] at h4
  simp only [XTx.cells, List.getElem?_cons_zero, List.getElem?_cons_succ] at h4
  have HI : Hid (isOpenAt xs k = true) := by simp [Hid, isOpenAt, hk, hop]
  obtain ⟨o1, ocap, hoe, hocap, hom, -⟩ := hops.shape
  rw [hoe] at h4 hops
  have HO := hide hops
  have HV : Hid ((w.alloc (.cells #[.int .i64 1, .string key, .string val, .int .i64 amount] 171)).cell? ⟨b, 2, none⟩ = some (.slice (some ⟨g, 0, none⟩) xs.length cap)) := by
    unfold Hid; rw [World.cell?_alloc_past _ _ _ hb]; exact hv
  have HR := hide (hrow.alloc (.cells #[.int .i64 1, .string key, .string val, .int .i64 amount] 171))
  have HW := hide hrow
  have HOE := hide hoe
  clear hrow hc hops hop hoe
  unfold maxLen at _hval
  have hbad' : (kindOf key != 99) = true := by simp; exact hbad
  clear hbad
  go_enter Tryz.func93, Tryz.ntmps93
  go_wp2_with fail
  refine (is_any _ b _ xs k (by omega) HV.out HR.out).mono ?_
  rintro e w1 ⟨he, rfl⟩
  rw [HI.out] at he
  subst he
  go_wp2_with fail
  refine (kind_any key _ hkey).mono ?_
  rintro e w2 ⟨rfl, rfl⟩
  generalize kindOf key = kk at *
  go_wp2_with fail
  all_goals go_ret
  all_goals exact ⟨rfl, (Below.refl _ _).alloc (Nat.le_refl _) _⟩

set_option maxRecDepth 100000 in
set_option maxHeartbeats 1000000 in
theorem does1_low (w : World) (b : Nat) (v : Value) (xs : List XTx) (k : Nat) (key val : ByteArray) (amount : Int) (ops : List ROp) (hn : xs.length ≤ 6) (hk : k < xs.length) (hb : b < w.heap.size) (hkey : key.size ≤ maxLen) (_hval : val.size ≤ maxLen)
    (hv : w.cell? ⟨b, 2, none⟩ = some v) (hrow : Row w 217 5 v xs.length (xs.flatMap XTx.cells)) (hop : xs[k].isOpen = true) (_hfew : ops.length ≤ 16)
    (hops : Row w 171 4 xs[k].ov ops.length (ops.flatMap ROp.cells)) (hok : kindOf key = 99) (hbad : amount < -1000000) :
    Calls Tryz.prog 93 #[.pointer (some ⟨b, 0, none⟩), .int .i64 k, .agg #[.int .i64 1, .string key, .string val, .int .i64 amount]] w fun e w' => e = .returned (.int .i64 3) ∧ Below w.heap.size w w' := by
  obtain ⟨g, cap, rfl, hcap, hm, hg, hc, hf⟩ := hrow.pos (by omega)
  have h4 := hc (k * 5 + 4) (by omega)
  rw [flat_get _ 5 XTx.cells_len _ _ _ hk (by omega)] at h4
  simp only [XTx.cells, List.getElem?_cons_zero, List.getElem?_cons_succ] at h4
  have HI : Hid (isOpenAt xs k = true) := by simp [Hid, isOpenAt, hk, hop]
  obtain ⟨o1, ocap, hoe, hocap, hom, -⟩ := hops.shape
  rw [hoe] at h4 hops
  have HO := hide hops
  have HV : Hid ((w.alloc (.cells #[.int .i64 1, .string key, .string val, .int .i64 amount] 171)).cell? ⟨b, 2, none⟩ = some (.slice (some ⟨g, 0, none⟩) xs.length cap)) := by
    unfold Hid; rw [World.cell?_alloc_past _ _ _ hb]; exact hv
  have HR := hide (hrow.alloc (.cells #[.int .i64 1, .string key, .string val, .int .i64 amount] 171))
  have HW := hide hrow
  have HOE := hide hoe
  clear hrow hc hops hop hoe
  unfold maxLen at _hval
  have hok' : (kindOf key != 99) = false := by rw [hok]; rfl
  clear hok
  go_enter Tryz.func93, Tryz.ntmps93
  go_wp2_with fail
  refine (is_any _ b _ xs k (by omega) HV.out HR.out).mono ?_
  rintro e w1 ⟨he, rfl⟩
  rw [HI.out] at he
  subst he
  go_wp2_with fail
  refine (kind_any key _ hkey).mono ?_
  rintro e w2 ⟨rfl, rfl⟩
  generalize kindOf key = kk at *
  go_wp2_with fail
  all_goals go_ret
  all_goals exact ⟨rfl, (Below.refl _ _).alloc (Nat.le_refl _) _⟩

set_option maxRecDepth 100000 in
set_option maxHeartbeats 1000000 in
theorem does1_high (w : World) (b : Nat) (v : Value) (xs : List XTx) (k : Nat) (key val : ByteArray) (amount : Int) (ops : List ROp) (hn : xs.length ≤ 6) (hk : k < xs.length) (hb : b < w.heap.size) (hkey : key.size ≤ maxLen) (_hval : val.size ≤ maxLen)
    (hv : w.cell? ⟨b, 2, none⟩ = some v) (hrow : Row w 217 5 v xs.length (xs.flatMap XTx.cells)) (hop : xs[k].isOpen = true) (_hfew : ops.length ≤ 16)
    (hops : Row w 171 4 xs[k].ov ops.length (ops.flatMap ROp.cells)) (hok : kindOf key = 99) (hbad : 1000000 < amount) :
    Calls Tryz.prog 93 #[.pointer (some ⟨b, 0, none⟩), .int .i64 k, .agg #[.int .i64 1, .string key, .string val, .int .i64 amount]] w fun e w' => e = .returned (.int .i64 3) ∧ Below w.heap.size w w' := by
  obtain ⟨g, cap, rfl, hcap, hm, hg, hc, hf⟩ := hrow.pos (by omega)
  have h4 := hc (k * 5 + 4) (by omega)
  rw [flat_get _ 5 XTx.cells_len _ _ _ hk (by omega)] at h4
  simp only [XTx.cells, List.getElem?_cons_zero, List.getElem?_cons_succ] at h4
  have HI : Hid (isOpenAt xs k = true) := by simp [Hid, isOpenAt, hk, hop]
  obtain ⟨o1, ocap, hoe, hocap, hom, -⟩ := hops.shape
  rw [hoe] at h4 hops
  have HO := hide hops
  have HV : Hid ((w.alloc (.cells #[.int .i64 1, .string key, .string val, .int .i64 amount] 171)).cell? ⟨b, 2, none⟩ = some (.slice (some ⟨g, 0, none⟩) xs.length cap)) := by
    unfold Hid; rw [World.cell?_alloc_past _ _ _ hb]; exact hv
  have HR := hide (hrow.alloc (.cells #[.int .i64 1, .string key, .string val, .int .i64 amount] 171))
  have HW := hide hrow
  have HOE := hide hoe
  clear hrow hc hops hop hoe
  unfold maxLen at _hval
  have hok' : (kindOf key != 99) = false := by rw [hok]; rfl
  clear hok
  go_enter Tryz.func93, Tryz.ntmps93
  go_wp2_with fail
  refine (is_any _ b _ xs k (by omega) HV.out HR.out).mono ?_
  rintro e w1 ⟨he, rfl⟩
  rw [HI.out] at he
  subst he
  go_wp2_with fail
  refine (kind_any key _ hkey).mono ?_
  rintro e w2 ⟨rfl, rfl⟩
  generalize kindOf key = kk at *
  go_wp2_with fail
  all_goals go_ret
  all_goals exact ⟨rfl, (Below.refl _ _).alloc (Nat.le_refl _) _⟩

set_option maxRecDepth 100000 in
set_option maxHeartbeats 1000000 in
theorem does1_full (w : World) (b : Nat) (v : Value) (xs : List XTx) (k : Nat) (key val : ByteArray) (amount : Int) (ops : List ROp) (hn : xs.length ≤ 6) (hk : k < xs.length) (hb : b < w.heap.size) (hkey : key.size ≤ maxLen) (_hval : val.size ≤ maxLen)
    (hv : w.cell? ⟨b, 2, none⟩ = some v) (hrow : Row w 217 5 v xs.length (xs.flatMap XTx.cells)) (hop : xs[k].isOpen = true) (_hfew : ops.length ≤ 16)
    (hops : Row w 171 4 xs[k].ov ops.length (ops.flatMap ROp.cells)) (hok : kindOf key = 99) (hlo : -1000000 ≤ amount) (hhi : amount ≤ 1000000) (hfull : 16 ≤ ops.length) :
    Calls Tryz.prog 93 #[.pointer (some ⟨b, 0, none⟩), .int .i64 k, .agg #[.int .i64 1, .string key, .string val, .int .i64 amount]] w fun e w' => e = .returned (.int .i64 5) ∧ Below w.heap.size w w' := by
  obtain ⟨g, cap, rfl, hcap, hm, hg, hc, hf⟩ := hrow.pos (by omega)
  have h4 := hc (k * 5 + 4) (by omega)
  rw [flat_get _ 5 XTx.cells_len _ _ _ hk (by omega)] at h4
  simp only [XTx.cells, List.getElem?_cons_zero, List.getElem?_cons_succ] at h4
  have HI : Hid (isOpenAt xs k = true) := by simp [Hid, isOpenAt, hk, hop]
  obtain ⟨o1, ocap, hoe, hocap, hom, -⟩ := hops.shape
  rw [hoe] at h4 hops
  have HO := hide hops
  have HV : Hid ((w.alloc (.cells #[.int .i64 1, .string key, .string val, .int .i64 amount] 171)).cell? ⟨b, 2, none⟩ = some (.slice (some ⟨g, 0, none⟩) xs.length cap)) := by
    unfold Hid; rw [World.cell?_alloc_past _ _ _ hb]; exact hv
  have HR := hide (hrow.alloc (.cells #[.int .i64 1, .string key, .string val, .int .i64 amount] 171))
  have HW := hide hrow
  have HOE := hide hoe
  clear hrow hc hops hop hoe
  unfold maxLen at _hval
  have hok' : (kindOf key != 99) = false := by rw [hok]; rfl
  clear hok
  go_enter Tryz.func93, Tryz.ntmps93
  go_wp2_with fail
  refine (is_any _ b _ xs k (by omega) HV.out HR.out).mono ?_
  rintro e w1 ⟨he, rfl⟩
  rw [HI.out] at he
  subst he
  go_wp2_with fail
  refine (kind_any key _ hkey).mono ?_
  rintro e w2 ⟨rfl, rfl⟩
  generalize kindOf key = kk at *
  go_wp2_with fail
  all_goals go_ret
  all_goals exact ⟨rfl, (Below.refl _ _).alloc (Nat.le_refl _) _⟩

set_option maxRecDepth 100000 in
set_option maxHeartbeats 1000000 in
theorem does2_key (w : World) (b : Nat) (v : Value) (xs : List XTx) (k : Nat) (key val : ByteArray) (amount : Int) (ops : List ROp) (hn : xs.length ≤ 6) (hk : k < xs.length) (hb : b < w.heap.size) (hkey : key.size ≤ maxLen) (_hval : val.size ≤ maxLen)
    (hv : w.cell? ⟨b, 2, none⟩ = some v) (hrow : Row w 217 5 v xs.length (xs.flatMap XTx.cells)) (hop : xs[k].isOpen = true) (_hfew : ops.length ≤ 16)
    (hops : Row w 171 4 xs[k].ov ops.length (ops.flatMap ROp.cells)) (hbad : ¬ kindOf key = 114) :
    Calls Tryz.prog 93 #[.pointer (some ⟨b, 0, none⟩), .int .i64 k, .agg #[.int .i64 2, .string key, .string val, .int .i64 amount]] w fun e w' => e = .returned (.int .i64 2) ∧ Below w.heap.size w w' := by
  obtain ⟨g, cap, rfl, hcap, hm, hg, hc, hf⟩ := hrow.pos (by omega)
  have h4 := hc (k * 5 + 4) (by omega)
  rw [flat_get _ 5 XTx.cells_len _ _ _ hk (by omega)] at h4
  simp only [XTx.cells, List.getElem?_cons_zero, List.getElem?_cons_succ] at h4
  have HI : Hid (isOpenAt xs k = true) := by simp [Hid, isOpenAt, hk, hop]
  obtain ⟨o1, ocap, hoe, hocap, hom, -⟩ := hops.shape
  rw [hoe] at h4 hops
  have HO := hide hops
  have HV : Hid ((w.alloc (.cells #[.int .i64 2, .string key, .string val, .int .i64 amount] 171)).cell? ⟨b, 2, none⟩ = some (.slice (some ⟨g, 0, none⟩) xs.length cap)) := by
    unfold Hid; rw [World.cell?_alloc_past _ _ _ hb]; exact hv
  have HR := hide (hrow.alloc (.cells #[.int .i64 2, .string key, .string val, .int .i64 amount] 171))
  have HW := hide hrow
  have HOE := hide hoe
  clear hrow hc hops hop hoe
  unfold maxLen at _hval
  have hbad' : (kindOf key != 114) = true := by simp; exact hbad
  clear hbad
  go_enter Tryz.func93, Tryz.ntmps93
  go_wp2_with fail
  refine (is_any _ b _ xs k (by omega) HV.out HR.out).mono ?_
  rintro e w1 ⟨he, rfl⟩
  rw [HI.out] at he
  subst he
  go_wp2_with fail
  refine (kind_any key _ hkey).mono ?_
  rintro e w2 ⟨rfl, rfl⟩
  generalize kindOf key = kk at *
  go_wp2_with fail
  all_goals go_ret
  all_goals exact ⟨rfl, (Below.refl _ _).alloc (Nat.le_refl _) _⟩

set_option maxRecDepth 100000 in
set_option maxHeartbeats 1000000 in
theorem does2_val (w : World) (b : Nat) (v : Value) (xs : List XTx) (k : Nat) (key val : ByteArray) (amount : Int) (ops : List ROp) (hn : xs.length ≤ 6) (hk : k < xs.length) (hb : b < w.heap.size) (hkey : key.size ≤ maxLen) (_hval : val.size ≤ maxLen)
    (hv : w.cell? ⟨b, 2, none⟩ = some v) (hrow : Row w 217 5 v xs.length (xs.flatMap XTx.cells)) (hop : xs[k].isOpen = true) (_hfew : ops.length ≤ 16)
    (hops : Row w 171 4 xs[k].ov ops.length (ops.flatMap ROp.cells)) (hok : kindOf key = 114) (hbad : 8 < val.size) :
    Calls Tryz.prog 93 #[.pointer (some ⟨b, 0, none⟩), .int .i64 k, .agg #[.int .i64 2, .string key, .string val, .int .i64 amount]] w fun e w' => e = .returned (.int .i64 3) ∧ Below w.heap.size w w' := by
  obtain ⟨g, cap, rfl, hcap, hm, hg, hc, hf⟩ := hrow.pos (by omega)
  have h4 := hc (k * 5 + 4) (by omega)
  rw [flat_get _ 5 XTx.cells_len _ _ _ hk (by omega)] at h4
  simp only [XTx.cells, List.getElem?_cons_zero, List.getElem?_cons_succ] at h4
  have HI : Hid (isOpenAt xs k = true) := by simp [Hid, isOpenAt, hk, hop]
  obtain ⟨o1, ocap, hoe, hocap, hom, -⟩ := hops.shape
  rw [hoe] at h4 hops
  have HO := hide hops
  have HV : Hid ((w.alloc (.cells #[.int .i64 2, .string key, .string val, .int .i64 amount] 171)).cell? ⟨b, 2, none⟩ = some (.slice (some ⟨g, 0, none⟩) xs.length cap)) := by
    unfold Hid; rw [World.cell?_alloc_past _ _ _ hb]; exact hv
  have HR := hide (hrow.alloc (.cells #[.int .i64 2, .string key, .string val, .int .i64 amount] 171))
  have HW := hide hrow
  have HOE := hide hoe
  clear hrow hc hops hop hoe
  unfold maxLen at _hval
  have hok' : (kindOf key != 114) = false := by rw [hok]; rfl
  clear hok
  go_enter Tryz.func93, Tryz.ntmps93
  go_wp2_with fail
  refine (is_any _ b _ xs k (by omega) HV.out HR.out).mono ?_
  rintro e w1 ⟨he, rfl⟩
  rw [HI.out] at he
  subst he
  go_wp2_with fail
  refine (kind_any key _ hkey).mono ?_
  rintro e w2 ⟨rfl, rfl⟩
  generalize kindOf key = kk at *
  go_wp2_with fail
  all_goals go_ret
  all_goals exact ⟨rfl, (Below.refl _ _).alloc (Nat.le_refl _) _⟩

set_option maxRecDepth 100000 in
set_option maxHeartbeats 1000000 in
theorem does2_full (w : World) (b : Nat) (v : Value) (xs : List XTx) (k : Nat) (key val : ByteArray) (amount : Int) (ops : List ROp) (hn : xs.length ≤ 6) (hk : k < xs.length) (hb : b < w.heap.size) (hkey : key.size ≤ maxLen) (_hval : val.size ≤ maxLen)
    (hv : w.cell? ⟨b, 2, none⟩ = some v) (hrow : Row w 217 5 v xs.length (xs.flatMap XTx.cells)) (hop : xs[k].isOpen = true) (_hfew : ops.length ≤ 16)
    (hops : Row w 171 4 xs[k].ov ops.length (ops.flatMap ROp.cells)) (hok : kindOf key = 114) (hsm : val.size ≤ 8) (hfull : 16 ≤ ops.length) :
    Calls Tryz.prog 93 #[.pointer (some ⟨b, 0, none⟩), .int .i64 k, .agg #[.int .i64 2, .string key, .string val, .int .i64 amount]] w fun e w' => e = .returned (.int .i64 5) ∧ Below w.heap.size w w' := by
  obtain ⟨g, cap, rfl, hcap, hm, hg, hc, hf⟩ := hrow.pos (by omega)
  have h4 := hc (k * 5 + 4) (by omega)
  rw [flat_get _ 5 XTx.cells_len _ _ _ hk (by omega)] at h4
  simp only [XTx.cells, List.getElem?_cons_zero, List.getElem?_cons_succ] at h4
  have HI : Hid (isOpenAt xs k = true) := by simp [Hid, isOpenAt, hk, hop]
  obtain ⟨o1, ocap, hoe, hocap, hom, -⟩ := hops.shape
  rw [hoe] at h4 hops
  have HO := hide hops
  have HV : Hid ((w.alloc (.cells #[.int .i64 2, .string key, .string val, .int .i64 amount] 171)).cell? ⟨b, 2, none⟩ = some (.slice (some ⟨g, 0, none⟩) xs.length cap)) := by
    unfold Hid; rw [World.cell?_alloc_past _ _ _ hb]; exact hv
  have HR := hide (hrow.alloc (.cells #[.int .i64 2, .string key, .string val, .int .i64 amount] 171))
  have HW := hide hrow
  have HOE := hide hoe
  clear hrow hc hops hop hoe
  unfold maxLen at _hval
  have hok' : (kindOf key != 114) = false := by rw [hok]; rfl
  clear hok
  go_enter Tryz.func93, Tryz.ntmps93
  go_wp2_with fail
  refine (is_any _ b _ xs k (by omega) HV.out HR.out).mono ?_
  rintro e w1 ⟨he, rfl⟩
  rw [HI.out] at he
  subst he
  go_wp2_with fail
  refine (kind_any key _ hkey).mono ?_
  rintro e w2 ⟨rfl, rfl⟩
  generalize kindOf key = kk at *
  go_wp2_with fail
  all_goals go_ret
  all_goals exact ⟨rfl, (Below.refl _ _).alloc (Nat.le_refl _) _⟩

set_option maxRecDepth 100000 in
set_option maxHeartbeats 1000000 in
theorem does3_key (w : World) (b : Nat) (v : Value) (xs : List XTx) (k : Nat) (key val : ByteArray) (amount : Int) (ops : List ROp) (hn : xs.length ≤ 6) (hk : k < xs.length) (hb : b < w.heap.size) (hkey : key.size ≤ maxLen) (_hval : val.size ≤ maxLen)
    (hv : w.cell? ⟨b, 2, none⟩ = some v) (hrow : Row w 217 5 v xs.length (xs.flatMap XTx.cells)) (hop : xs[k].isOpen = true) (_hfew : ops.length ≤ 16)
    (hops : Row w 171 4 xs[k].ov ops.length (ops.flatMap ROp.cells)) (hbad : ¬ kindOf key = 115) :
    Calls Tryz.prog 93 #[.pointer (some ⟨b, 0, none⟩), .int .i64 k, .agg #[.int .i64 3, .string key, .string val, .int .i64 amount]] w fun e w' => e = .returned (.int .i64 2) ∧ Below w.heap.size w w' := by
  obtain ⟨g, cap, rfl, hcap, hm, hg, hc, hf⟩ := hrow.pos (by omega)
  have h4 := hc (k * 5 + 4) (by omega)
  rw [flat_get _ 5 XTx.cells_len _ _ _ hk (by omega)] at h4
  simp only [XTx.cells, List.getElem?_cons_zero, List.getElem?_cons_succ] at h4
  have HI : Hid (isOpenAt xs k = true) := by simp [Hid, isOpenAt, hk, hop]
  obtain ⟨o1, ocap, hoe, hocap, hom, -⟩ := hops.shape
  rw [hoe] at h4 hops
  have HO := hide hops
  have HV : Hid ((w.alloc (.cells #[.int .i64 3, .string key, .string val, .int .i64 amount] 171)).cell? ⟨b, 2, none⟩ = some (.slice (some ⟨g, 0, none⟩) xs.length cap)) := by
    unfold Hid; rw [World.cell?_alloc_past _ _ _ hb]; exact hv
  have HR := hide (hrow.alloc (.cells #[.int .i64 3, .string key, .string val, .int .i64 amount] 171))
  have HW := hide hrow
  have HOE := hide hoe
  clear hrow hc hops hop hoe
  unfold maxLen at _hval
  have hbad' : (kindOf key != 115) = true := by simp; exact hbad
  clear hbad
  go_enter Tryz.func93, Tryz.ntmps93
  go_wp2_with fail
  refine (is_any _ b _ xs k (by omega) HV.out HR.out).mono ?_
  rintro e w1 ⟨he, rfl⟩
  rw [HI.out] at he
  subst he
  go_wp2_with fail
  refine (kind_any key _ hkey).mono ?_
  rintro e w2 ⟨rfl, rfl⟩
  generalize kindOf key = kk at *
  go_wp2_with fail
  all_goals go_ret
  all_goals exact ⟨rfl, (Below.refl _ _).alloc (Nat.le_refl _) _⟩

set_option maxRecDepth 100000 in
set_option maxHeartbeats 1000000 in
theorem does3_val (w : World) (b : Nat) (v : Value) (xs : List XTx) (k : Nat) (key val : ByteArray) (amount : Int) (ops : List ROp) (hn : xs.length ≤ 6) (hk : k < xs.length) (hb : b < w.heap.size) (hkey : key.size ≤ maxLen) (_hval : val.size ≤ maxLen)
    (hv : w.cell? ⟨b, 2, none⟩ = some v) (hrow : Row w 217 5 v xs.length (xs.flatMap XTx.cells)) (hop : xs[k].isOpen = true) (_hfew : ops.length ≤ 16)
    (hops : Row w 171 4 xs[k].ov ops.length (ops.flatMap ROp.cells)) (hok : kindOf key = 115) (hbad : 8 < val.size) :
    Calls Tryz.prog 93 #[.pointer (some ⟨b, 0, none⟩), .int .i64 k, .agg #[.int .i64 3, .string key, .string val, .int .i64 amount]] w fun e w' => e = .returned (.int .i64 3) ∧ Below w.heap.size w w' := by
  obtain ⟨g, cap, rfl, hcap, hm, hg, hc, hf⟩ := hrow.pos (by omega)
  have h4 := hc (k * 5 + 4) (by omega)
  rw [flat_get _ 5 XTx.cells_len _ _ _ hk (by omega)] at h4
  simp only [XTx.cells, List.getElem?_cons_zero, List.getElem?_cons_succ] at h4
  have HI : Hid (isOpenAt xs k = true) := by simp [Hid, isOpenAt, hk, hop]
  obtain ⟨o1, ocap, hoe, hocap, hom, -⟩ := hops.shape
  rw [hoe] at h4 hops
  have HO := hide hops
  have HV : Hid ((w.alloc (.cells #[.int .i64 3, .string key, .string val, .int .i64 amount] 171)).cell? ⟨b, 2, none⟩ = some (.slice (some ⟨g, 0, none⟩) xs.length cap)) := by
    unfold Hid; rw [World.cell?_alloc_past _ _ _ hb]; exact hv
  have HR := hide (hrow.alloc (.cells #[.int .i64 3, .string key, .string val, .int .i64 amount] 171))
  have HW := hide hrow
  have HOE := hide hoe
  clear hrow hc hops hop hoe
  unfold maxLen at _hval
  have hok' : (kindOf key != 115) = false := by rw [hok]; rfl
  clear hok
  go_enter Tryz.func93, Tryz.ntmps93
  go_wp2_with fail
  refine (is_any _ b _ xs k (by omega) HV.out HR.out).mono ?_
  rintro e w1 ⟨he, rfl⟩
  rw [HI.out] at he
  subst he
  go_wp2_with fail
  refine (kind_any key _ hkey).mono ?_
  rintro e w2 ⟨rfl, rfl⟩
  generalize kindOf key = kk at *
  go_wp2_with fail
  all_goals go_ret
  all_goals exact ⟨rfl, (Below.refl _ _).alloc (Nat.le_refl _) _⟩

set_option maxRecDepth 100000 in
set_option maxHeartbeats 1000000 in
theorem does3_full (w : World) (b : Nat) (v : Value) (xs : List XTx) (k : Nat) (key val : ByteArray) (amount : Int) (ops : List ROp) (hn : xs.length ≤ 6) (hk : k < xs.length) (hb : b < w.heap.size) (hkey : key.size ≤ maxLen) (_hval : val.size ≤ maxLen)
    (hv : w.cell? ⟨b, 2, none⟩ = some v) (hrow : Row w 217 5 v xs.length (xs.flatMap XTx.cells)) (hop : xs[k].isOpen = true) (_hfew : ops.length ≤ 16)
    (hops : Row w 171 4 xs[k].ov ops.length (ops.flatMap ROp.cells)) (hok : kindOf key = 115) (hsm : val.size ≤ 8) (hfull : 16 ≤ ops.length) :
    Calls Tryz.prog 93 #[.pointer (some ⟨b, 0, none⟩), .int .i64 k, .agg #[.int .i64 3, .string key, .string val, .int .i64 amount]] w fun e w' => e = .returned (.int .i64 5) ∧ Below w.heap.size w w' := by
  obtain ⟨g, cap, rfl, hcap, hm, hg, hc, hf⟩ := hrow.pos (by omega)
  have h4 := hc (k * 5 + 4) (by omega)
  rw [flat_get _ 5 XTx.cells_len _ _ _ hk (by omega)] at h4
  simp only [XTx.cells, List.getElem?_cons_zero, List.getElem?_cons_succ] at h4
  have HI : Hid (isOpenAt xs k = true) := by simp [Hid, isOpenAt, hk, hop]
  obtain ⟨o1, ocap, hoe, hocap, hom, -⟩ := hops.shape
  rw [hoe] at h4 hops
  have HO := hide hops
  have HV : Hid ((w.alloc (.cells #[.int .i64 3, .string key, .string val, .int .i64 amount] 171)).cell? ⟨b, 2, none⟩ = some (.slice (some ⟨g, 0, none⟩) xs.length cap)) := by
    unfold Hid; rw [World.cell?_alloc_past _ _ _ hb]; exact hv
  have HR := hide (hrow.alloc (.cells #[.int .i64 3, .string key, .string val, .int .i64 amount] 171))
  have HW := hide hrow
  have HOE := hide hoe
  clear hrow hc hops hop hoe
  unfold maxLen at _hval
  have hok' : (kindOf key != 115) = false := by rw [hok]; rfl
  clear hok
  go_enter Tryz.func93, Tryz.ntmps93
  go_wp2_with fail
  refine (is_any _ b _ xs k (by omega) HV.out HR.out).mono ?_
  rintro e w1 ⟨he, rfl⟩
  rw [HI.out] at he
  subst he
  go_wp2_with fail
  refine (kind_any key _ hkey).mono ?_
  rintro e w2 ⟨rfl, rfl⟩
  generalize kindOf key = kk at *
  go_wp2_with fail
  all_goals go_ret
  all_goals exact ⟨rfl, (Below.refl _ _).alloc (Nat.le_refl _) _⟩

set_option maxRecDepth 100000 in
set_option maxHeartbeats 1000000 in
theorem does4_key (w : World) (b : Nat) (v : Value) (xs : List XTx) (k : Nat) (key val : ByteArray) (amount : Int) (ops : List ROp) (hn : xs.length ≤ 6) (hk : k < xs.length) (hb : b < w.heap.size) (hkey : key.size ≤ maxLen) (_hval : val.size ≤ maxLen)
    (hv : w.cell? ⟨b, 2, none⟩ = some v) (hrow : Row w 217 5 v xs.length (xs.flatMap XTx.cells)) (hop : xs[k].isOpen = true) (_hfew : ops.length ≤ 16)
    (hops : Row w 171 4 xs[k].ov ops.length (ops.flatMap ROp.cells)) (hbad : ¬ kindOf key = 115) :
    Calls Tryz.prog 93 #[.pointer (some ⟨b, 0, none⟩), .int .i64 k, .agg #[.int .i64 4, .string key, .string val, .int .i64 amount]] w fun e w' => e = .returned (.int .i64 2) ∧ Below w.heap.size w w' := by
  obtain ⟨g, cap, rfl, hcap, hm, hg, hc, hf⟩ := hrow.pos (by omega)
  have h4 := hc (k * 5 + 4) (by omega)
  rw [flat_get _ 5 XTx.cells_len _ _ _ hk (by omega)] at h4
  simp only [XTx.cells, List.getElem?_cons_zero, List.getElem?_cons_succ] at h4
  have HI : Hid (isOpenAt xs k = true) := by simp [Hid, isOpenAt, hk, hop]
  obtain ⟨o1, ocap, hoe, hocap, hom, -⟩ := hops.shape
  rw [hoe] at h4 hops
  have HO := hide hops
  have HV : Hid ((w.alloc (.cells #[.int .i64 4, .string key, .string val, .int .i64 amount] 171)).cell? ⟨b, 2, none⟩ = some (.slice (some ⟨g, 0, none⟩) xs.length cap)) := by
    unfold Hid; rw [World.cell?_alloc_past _ _ _ hb]; exact hv
  have HR := hide (hrow.alloc (.cells #[.int .i64 4, .string key, .string val, .int .i64 amount] 171))
  have HW := hide hrow
  have HOE := hide hoe
  clear hrow hc hops hop hoe
  unfold maxLen at _hval
  have hbad' : (kindOf key != 115) = true := by simp; exact hbad
  clear hbad
  go_enter Tryz.func93, Tryz.ntmps93
  go_wp2_with fail
  refine (is_any _ b _ xs k (by omega) HV.out HR.out).mono ?_
  rintro e w1 ⟨he, rfl⟩
  rw [HI.out] at he
  subst he
  go_wp2_with fail
  refine (kind_any key _ hkey).mono ?_
  rintro e w2 ⟨rfl, rfl⟩
  generalize kindOf key = kk at *
  go_wp2_with fail
  all_goals go_ret
  all_goals exact ⟨rfl, (Below.refl _ _).alloc (Nat.le_refl _) _⟩

set_option maxRecDepth 100000 in
set_option maxHeartbeats 1000000 in
theorem does4_val (w : World) (b : Nat) (v : Value) (xs : List XTx) (k : Nat) (key val : ByteArray) (amount : Int) (ops : List ROp) (hn : xs.length ≤ 6) (hk : k < xs.length) (hb : b < w.heap.size) (hkey : key.size ≤ maxLen) (_hval : val.size ≤ maxLen)
    (hv : w.cell? ⟨b, 2, none⟩ = some v) (hrow : Row w 217 5 v xs.length (xs.flatMap XTx.cells)) (hop : xs[k].isOpen = true) (_hfew : ops.length ≤ 16)
    (hops : Row w 171 4 xs[k].ov ops.length (ops.flatMap ROp.cells)) (hok : kindOf key = 115) (hbad : 8 < val.size) :
    Calls Tryz.prog 93 #[.pointer (some ⟨b, 0, none⟩), .int .i64 k, .agg #[.int .i64 4, .string key, .string val, .int .i64 amount]] w fun e w' => e = .returned (.int .i64 3) ∧ Below w.heap.size w w' := by
  obtain ⟨g, cap, rfl, hcap, hm, hg, hc, hf⟩ := hrow.pos (by omega)
  have h4 := hc (k * 5 + 4) (by omega)
  rw [flat_get _ 5 XTx.cells_len _ _ _ hk (by omega)] at h4
  simp only [XTx.cells, List.getElem?_cons_zero, List.getElem?_cons_succ] at h4
  have HI : Hid (isOpenAt xs k = true) := by simp [Hid, isOpenAt, hk, hop]
  obtain ⟨o1, ocap, hoe, hocap, hom, -⟩ := hops.shape
  rw [hoe] at h4 hops
  have HO := hide hops
  have HV : Hid ((w.alloc (.cells #[.int .i64 4, .string key, .string val, .int .i64 amount] 171)).cell? ⟨b, 2, none⟩ = some (.slice (some ⟨g, 0, none⟩) xs.length cap)) := by
    unfold Hid; rw [World.cell?_alloc_past _ _ _ hb]; exact hv
  have HR := hide (hrow.alloc (.cells #[.int .i64 4, .string key, .string val, .int .i64 amount] 171))
  have HW := hide hrow
  have HOE := hide hoe
  clear hrow hc hops hop hoe
  unfold maxLen at _hval
  have hok' : (kindOf key != 115) = false := by rw [hok]; rfl
  clear hok
  go_enter Tryz.func93, Tryz.ntmps93
  go_wp2_with fail
  refine (is_any _ b _ xs k (by omega) HV.out HR.out).mono ?_
  rintro e w1 ⟨he, rfl⟩
  rw [HI.out] at he
  subst he
  go_wp2_with fail
  refine (kind_any key _ hkey).mono ?_
  rintro e w2 ⟨rfl, rfl⟩
  generalize kindOf key = kk at *
  go_wp2_with fail
  all_goals go_ret
  all_goals exact ⟨rfl, (Below.refl _ _).alloc (Nat.le_refl _) _⟩

set_option maxRecDepth 100000 in
set_option maxHeartbeats 1000000 in
theorem does4_full (w : World) (b : Nat) (v : Value) (xs : List XTx) (k : Nat) (key val : ByteArray) (amount : Int) (ops : List ROp) (hn : xs.length ≤ 6) (hk : k < xs.length) (hb : b < w.heap.size) (hkey : key.size ≤ maxLen) (_hval : val.size ≤ maxLen)
    (hv : w.cell? ⟨b, 2, none⟩ = some v) (hrow : Row w 217 5 v xs.length (xs.flatMap XTx.cells)) (hop : xs[k].isOpen = true) (_hfew : ops.length ≤ 16)
    (hops : Row w 171 4 xs[k].ov ops.length (ops.flatMap ROp.cells)) (hok : kindOf key = 115) (hsm : val.size ≤ 8) (hfull : 16 ≤ ops.length) :
    Calls Tryz.prog 93 #[.pointer (some ⟨b, 0, none⟩), .int .i64 k, .agg #[.int .i64 4, .string key, .string val, .int .i64 amount]] w fun e w' => e = .returned (.int .i64 5) ∧ Below w.heap.size w w' := by
  obtain ⟨g, cap, rfl, hcap, hm, hg, hc, hf⟩ := hrow.pos (by omega)
  have h4 := hc (k * 5 + 4) (by omega)
  rw [flat_get _ 5 XTx.cells_len _ _ _ hk (by omega)] at h4
  simp only [XTx.cells, List.getElem?_cons_zero, List.getElem?_cons_succ] at h4
  have HI : Hid (isOpenAt xs k = true) := by simp [Hid, isOpenAt, hk, hop]
  obtain ⟨o1, ocap, hoe, hocap, hom, -⟩ := hops.shape
  rw [hoe] at h4 hops
  have HO := hide hops
  have HV : Hid ((w.alloc (.cells #[.int .i64 4, .string key, .string val, .int .i64 amount] 171)).cell? ⟨b, 2, none⟩ = some (.slice (some ⟨g, 0, none⟩) xs.length cap)) := by
    unfold Hid; rw [World.cell?_alloc_past _ _ _ hb]; exact hv
  have HR := hide (hrow.alloc (.cells #[.int .i64 4, .string key, .string val, .int .i64 amount] 171))
  have HW := hide hrow
  have HOE := hide hoe
  clear hrow hc hops hop hoe
  unfold maxLen at _hval
  have hok' : (kindOf key != 115) = false := by rw [hok]; rfl
  clear hok
  go_enter Tryz.func93, Tryz.ntmps93
  go_wp2_with fail
  refine (is_any _ b _ xs k (by omega) HV.out HR.out).mono ?_
  rintro e w1 ⟨he, rfl⟩
  rw [HI.out] at he
  subst he
  go_wp2_with fail
  refine (kind_any key _ hkey).mono ?_
  rintro e w2 ⟨rfl, rfl⟩
  generalize kindOf key = kk at *
  go_wp2_with fail
  all_goals go_ret
  all_goals exact ⟨rfl, (Below.refl _ _).alloc (Nat.le_refl _) _⟩

end Go.Proofs.YtiplgdkpnhamaaaGreatDoor

/- What binds the replicas of a group to all that was committed is kept by each step; what follows from it. -/
namespace Go.Proofs.YtiplgdkpnhamaaaGreatDoor
open Go.RowKit

theorem Inv.init (n : Nat) : Inv n (List.replicate n (newD n)) [] := by
  have hz : ∀ r, (List.replicate n (0 : Int)).getD r 0 = 0 := fun r => by
    rw [List.getD_eq_getElem?_getD, List.getElem?_replicate]; split <;> rfl
  refine ⟨by simp, fun i h => by simp [newD], fun i h r => ?_, fun i h r h' => ?_, fun u hu => by simp at hu, List.Pairwise.nil, fun r h s hs => ?_, fun i h k t ht => ?_, fun i h => ?_, fun u hu => by simp at hu⟩
  · rw [List.getElem_replicate]; simp only [newD, hz]; simp
  · rw [List.getElem_replicate, List.getElem_replicate]; simp only [newD, hz]; exact Int.le_refl _
  · rw [List.getElem_replicate] at hs; simp only [newD, hz] at hs; omega
  · rw [List.getElem_replicate] at ht; cases ht
  · rw [List.getElem_replicate]; simp [newD]

section
variable {n : Nat} {ds : List DRep} {ts : List RTx} {i : Nat} {d d' : DRep}
theorem set_vis (hi : ds[i]? = some d) (hv : d'.vis = d.vis) (j : Nat) (h : j < (ds.set i d').length) (h' : j < ds.length) : (ds.set i d')[j].vis = ds[j].vis := by
  by_cases e : i = j
  · subst e
    rw [List.getElem_set_self, hv]
    rw [List.getElem?_eq_getElem h'] at hi
    rw [Option.some.inj hi]
  · rw [List.getElem_set_ne e]
theorem set_hs (hi : ds[i]? = some d) (hv : d'.hs = d.hs) (j : Nat) (h : j < (ds.set i d').length) (h' : j < ds.length) : (ds.set i d')[j].hs = ds[j].hs := by
  by_cases e : i = j
  · subst e
    rw [List.getElem_set_self, hv]
    rw [List.getElem?_eq_getElem h'] at hi
    rw [Option.some.inj hi]
  · rw [List.getElem_set_ne e]
theorem Inv.opens (h : Inv n ds ts) (hi : ds[i]? = some d) (hh : d'.hs = d.hs) (hv : d'.vis = d.vis) (ho : ∀ k t, d'.opn k = some t → t.saw.length = n ∧ ∀ r, 0 ≤ t.saw.getD r 0 ∧ t.saw.getD r 0 ≤ d.vis.getD r 0) : Inv n (ds.set i d') ts := by
  have hl : (ds.set i d').length = ds.length := List.length_set ..
  refine ⟨hl.trans h.len, fun j hj => ?_, fun j hj r => ?_, fun j hj r hr => ?_, fun u hu => ?_, h.uniq, fun r hr s hs => ?_, fun j hj k t ht => ?_, fun j hj => ?_, h.few⟩
  · rw [set_vis hi hv j hj (by omega)]; exact h.vlen j _
  · rw [set_vis hi hv j hj (by omega)]; exact h.vpos j _ r
  · rw [set_vis hi hv j hj (by omega), set_vis hi hv r hr (by omega)]; exact h.own j _ r _
  · obtain ⟨r, hr, h1, h2, h3⟩ := h.dots u hu
    exact ⟨r, by omega, h1, h2, by rw [set_vis hi hv r (by omega) hr]; exact h3⟩
  · rw [set_vis hi hv r hr (by omega)] at hs; exact h.full r (by omega) s hs
  · rw [set_vis hi hv j hj (by omega)]
    by_cases e : i = j
    · subst e
      rw [List.getElem_set_self] at ht
      have hd : ds[i]'(by omega) = d := by rw [List.getElem?_eq_getElem (by omega)] at hi; exact Option.some.inj hi
      rw [hd]
      exact ho k t ht
    · rw [List.getElem_set_ne e] at ht
      exact h.saw j (by omega) k t ht
  · rw [set_vis hi hv j hj (by omega), set_hs hi hh j hj (by omega)]; exact h.hist j _
theorem Inv.at (_h : Inv n ds ts) (hi : ds[i]? = some d) : ∃ hl : i < ds.length, ds[i] = d := by
  obtain ⟨hl, e⟩ := List.getElem?_eq_some_iff.1 hi
  exact ⟨hl, e⟩
theorem Inv.sawOf (h : Inv n ds ts) (hi : ds[i]? = some d) {k : Nat} {t : RTx} (ht : d.opn k = some t) : t.saw.length = n ∧ ∀ r, 0 ≤ t.saw.getD r 0 ∧ t.saw.getD r 0 ≤ d.vis.getD r 0 := by
  obtain ⟨hl, rfl⟩ := h.at hi
  exact h.saw i hl k t ht
theorem Inv.begins (h : Inv n ds ts) (hi : ds[i]? = some d) : Inv n (ds.set i (beginD d)) ts := by
  obtain ⟨hl, e⟩ := h.at hi
  refine h.opens hi (by unfold beginD; split <;> rfl) (by unfold beginD; split <;> rfl) fun k t ht => ?_
  unfold beginD at ht
  split at ht
  · by_cases c : k = freeSlot d.opn
    · subst c
      have ht' : some (⟨0, 0, d.vis, []⟩ : RTx) = some t := (setSlot_same d.opn _ _).symm.trans ht
      cases ht'
      subst e
      exact ⟨h.vlen i hl, fun r => ⟨(h.vpos i hl r).1, Int.le_refl _⟩⟩
    · exact h.sawOf hi ((setSlot_other c).symm.trans ht)
  · exact h.sawOf hi ht
theorem Inv.does (h : Inv n ds ts) (hi : ds[i]? = some d) (tx : Int) (p : ROp) : Inv n (ds.set i (doesD d tx p)) ts := by
  refine h.opens hi (by unfold doesD; split <;> (try split) <;> rfl) (by unfold doesD; split <;> (try split) <;> rfl) fun k t ht => ?_
  unfold doesD at ht
  split at ht
  · exact h.sawOf hi ht
  · rename_i u hu
    split at ht
    · by_cases c : k = tx.toNat
      · subst c
        have ht' : some ({ u with ops := u.ops ++ [p] } : RTx) = some t := (setSlot_same d.opn _ _).symm.trans ht
        cases ht'
        unfold opnAt at hu
        split at hu
        · have a := h.sawOf hi hu
          exact a
        · cases hu
      · exact h.sawOf hi ((setSlot_other c).symm.trans ht)
    · exact h.sawOf hi ht
theorem endD_open {tx : Int} {k : Nat} {t : RTx} (ht : (endD d tx).opn k = some t) : d.opn k = some t := by
  by_cases c : k = tx.toNat
  · subst c
    have ht' : (none : Option RTx) = some t := (setSlot_same d.opn _ none).symm.trans ht
    cases ht'
  · exact (setSlot_other c).symm.trans ht
theorem Inv.ends (h : Inv n ds ts) (hi : ds[i]? = some d) (tx : Int) : Inv n (ds.set i (endD d tx)) ts :=
  h.opens hi rfl rfl fun _ _ ht => h.sawOf hi (endD_open ht)
theorem Inv.self (h : Inv n ds ts) (hi : ds[i]? = some d) : Inv n (ds.set i d) ts := h.opens hi rfl rfl fun _ _ ht => h.sawOf hi ht
theorem Inv.aborts (h : Inv n ds ts) (hi : ds[i]? = some d) (tx : Int) : Inv n (ds.set i (abortD d tx)) ts := by
  unfold abortD
  split
  · exact h.ends hi tx
  · exact h.self hi
theorem getD_set (l : List Int) (k : Nat) (x : Int) (hk : k < l.length) (r : Nat) : (l.set k x).getD r 0 = if r = k then x else l.getD r 0 := by
  rw [List.getD_eq_getElem?_getD, List.getD_eq_getElem?_getD, List.getElem?_set]
  by_cases e : k = r
  · subst e; simp [hk]
  · rw [if_neg e, if_neg (fun c => e c.symm)]
theorem Inv.done (h : Inv n ds ts) (hi : ds[i]? = some d) {t : RTx} (h16 : t.ops.length ≤ 16) (opn' : Nat → Option RTx) (ho : ∀ k u, opn' k = some u → d.opn k = some u) :
    Inv n (ds.set i ⟨d.hs ++ [done i d t], d.vis.set i (d.vis.getD i 0 + 1), opn'⟩) (ts ++ [done i d t]) := by
  obtain ⟨hl, e⟩ := h.at hi
  subst e
  have hlen := h.len
  have hvi : i < ds[i].vis.length := by rw [h.vlen i hl]; omega
  have hset : (ds.set i ⟨ds[i].hs ++ [Go.Proofs.YtiplgdkpnhamaaaGreatDoor.done i ds[i] t], ds[i].vis.set i (ds[i].vis.getD i 0 + 1), opn'⟩).length = ds.length := List.length_set ..
  have vs : ∀ j (hj : j < ds.length) (hj' : j < (ds.set i ⟨ds[i].hs ++ [Go.Proofs.YtiplgdkpnhamaaaGreatDoor.done i ds[i] t], ds[i].vis.set i (ds[i].vis.getD i 0 + 1), opn'⟩).length) r, ((ds.set i ⟨ds[i].hs ++ [Go.Proofs.YtiplgdkpnhamaaaGreatDoor.done i ds[i] t], ds[i].vis.set i (ds[i].vis.getD i 0 + 1), opn'⟩)[j]).vis.getD r 0 = if j = i ∧ r = i then ds[i].vis.getD i 0 + 1 else ds[j].vis.getD r 0 := fun j hj hj' r => by
    by_cases c : i = j
    · subst c
      rw [List.getElem_set_self]
      show (ds[i].vis.set i (ds[i].vis.getD i 0 + 1)).getD r 0 = _
      rw [getD_set _ _ _ hvi]
      by_cases c2 : r = i
      · rw [if_pos c2, if_pos ⟨rfl, c2⟩]
      · rw [if_neg c2, if_neg (fun x => c2 x.2)]
    · rw [List.getElem_set_ne c, if_neg (fun x => c x.1.symm)]
  have h0 := h.vpos i hl i
  refine ⟨hset.trans hlen, fun j hj => ?_, fun j hj r => ?_, fun j hj r hr => ?_, fun u hu => ?_, ?_, fun r hr s hs' => ?_, fun j hj k u hu => ?_, fun j hj => ?_, fun u hu => ?_⟩
  · by_cases c : i = j
    · subst c; rw [List.getElem_set_self]; show (ds[i].vis.set i _).length = n; rw [List.length_set]; exact h.vlen i hl
    · rw [List.getElem_set_ne c]; exact h.vlen j (by omega)
  · rw [vs j (by omega) hj r, List.length_append, List.length_singleton]
    split
    · omega
    · have := h.vpos j (by omega) r; omega
  · rw [vs j (by omega) hj r, vs r (by omega) hr r]
    have a := h.own j (by omega) r (by omega)
    by_cases c : r = i
    · subst c
      rw [if_pos (show r = r ∧ r = r from ⟨rfl, rfl⟩)]
      split <;> omega
    · rw [if_neg (fun x => c x.2), if_neg (fun x => c x.2)]; exact a
  · rcases List.mem_append.1 hu with hu | hu
    · obtain ⟨r, hr, h1, h2, h3⟩ := h.dots u hu
      refine ⟨r, by omega, h1, h2, ?_⟩
      rw [vs r hr (by omega) r]
      split
      · rename_i c; obtain ⟨rfl, -⟩ := c; omega
      · exact h3
    · have e := List.mem_singleton.1 hu
      subst e
      refine ⟨i, by omega, rfl, by show 1 ≤ ds[i].vis.getD i 0 + 1; omega, ?_⟩
      rw [vs i hl (by omega) i, if_pos ⟨rfl, rfl⟩]
      exact Int.le_refl _
  · rw [List.pairwise_append]
    refine ⟨h.uniq, by simp, fun u hu c hc => ?_⟩
    have e := List.mem_singleton.1 hc
    subst e
    rintro ⟨e1, e2⟩
    obtain ⟨r, hr, h1, h2, h3⟩ := h.dots u hu
    have : r = i := by
      have : (r : Int) = i := h1.symm.trans e1
      omega
    subst this
    have : u.seq = ds[r].vis.getD r 0 + 1 := e2
    omega
  · rw [vs r (by omega) hr r] at hs'
    split at hs'
    · rename_i c
      obtain ⟨rfl, -⟩ := c
      by_cases c2 : (s : Int) + 1 ≤ ds[r].vis.getD r 0
      · obtain ⟨u, hu, hd⟩ := h.full r hl s c2
        exact ⟨u, by simp [hu], hd⟩
      · refine ⟨Go.Proofs.YtiplgdkpnhamaaaGreatDoor.done r ds[r] t, by simp, ?_⟩
        unfold isDot Go.Proofs.YtiplgdkpnhamaaaGreatDoor.done
        rw [decide_eq_true_eq]
        exact ⟨rfl, by show ds[r].vis.getD r 0 + 1 = _; omega⟩
    · obtain ⟨u, hu, hd⟩ := h.full r (by omega) s hs'
      exact ⟨u, by simp [hu], hd⟩
  · have mono : ∀ r, (if j = i ∧ r = i then ds[i].vis.getD i 0 + 1 else (ds[j]'(by omega)).vis.getD r 0) ≥ (ds[j]'(by omega)).vis.getD r 0 := fun r => by
      split
      · rename_i c; obtain ⟨rfl, rfl⟩ := c; omega
      · exact Int.le_refl _
    have hold : (ds[j]'(by omega)).opn k = some u := by
      by_cases c : i = j
      · subst c; rw [List.getElem_set_self] at hu; exact ho k u hu
      · rw [List.getElem_set_ne c] at hu; exact hu
    obtain ⟨a1, a2⟩ := h.saw j (by omega) k u hold
    refine ⟨a1, fun r => ⟨(a2 r).1, ?_⟩⟩
    rw [vs j (by omega) hj r]
    exact Int.le_trans (a2 r).2 (mono r)
  · rw [List.filter_append]
    by_cases c : i = j
    · subst c
      rw [List.getElem_set_self]
      show (ds[i].hs ++ [Go.Proofs.YtiplgdkpnhamaaaGreatDoor.done i ds[i] t]).Perm _
      have hc : seesV (ds[i].vis.set i (ds[i].vis.getD i 0 + 1)) (Go.Proofs.YtiplgdkpnhamaaaGreatDoor.done i ds[i] t).rep (Go.Proofs.YtiplgdkpnhamaaaGreatDoor.done i ds[i] t).seq = true := by
        unfold seesV
        rw [decide_eq_true_eq]
        show ds[i].vis.getD i 0 + 1 ≤ (ds[i].vis.set i (ds[i].vis.getD i 0 + 1)).getD (Int.toNat (i : Int)) 0
        rw [Int.toNat_natCast, getD_set _ _ _ hvi, if_pos rfl]
        exact Int.le_refl _
      have hf : (ts.filter fun u => seesV (ds[i].vis.set i (ds[i].vis.getD i 0 + 1)) u.rep u.seq) = ts.filter fun u => seesV ds[i].vis u.rep u.seq := by
        refine List.filter_congr fun u hu => ?_
        obtain ⟨r, hr, h1, h2, h3⟩ := h.dots u hu
        unfold seesV
        rw [h1, Int.toNat_natCast, getD_set _ _ _ hvi]
        by_cases c2 : r = i
        · subst c2
          rw [if_pos rfl, decide_eq_true (by omega), decide_eq_true (by omega)]
        · rw [if_neg c2]
      rw [hf]
      have : List.filter (fun u => seesV (ds[i].vis.set i (ds[i].vis.getD i 0 + 1)) u.rep u.seq) [Go.Proofs.YtiplgdkpnhamaaaGreatDoor.done i ds[i] t] = [Go.Proofs.YtiplgdkpnhamaaaGreatDoor.done i ds[i] t] := by
        rw [List.filter_cons, if_pos hc]; rfl
      rw [this]
      exact (h.hist i hl).append_right _
    · rw [List.getElem_set_ne c]
      have hc : seesV (ds[j]'(by omega)).vis (Go.Proofs.YtiplgdkpnhamaaaGreatDoor.done i ds[i] t).rep (Go.Proofs.YtiplgdkpnhamaaaGreatDoor.done i ds[i] t).seq = false := by
        unfold seesV
        rw [decide_eq_false_iff_not]
        show ¬ ds[i].vis.getD i 0 + 1 ≤ (ds[j]'(by omega)).vis.getD (Int.toNat (i : Int)) 0
        rw [Int.toNat_natCast]
        have := h.own j (by omega) i hl
        omega
      rw [List.filter_cons, if_neg (by rw [hc]; simp), List.filter_nil, List.append_nil]
      exact h.hist j (by omega)
  · rcases List.mem_append.1 hu with hu | hu
    · exact h.few u hu
    · have e := List.mem_singleton.1 hu
      subst e
      exact h16
theorem Inv.commits (h : Inv n ds ts) (hi : ds[i]? = some d) (tx : Int) (h16 : ∀ k t, d.opn k = some t → t.ops.length ≤ 16) : Inv n (ds.set i (commitD i d tx)) (commitT i d tx ts) := by
  unfold commitD commitT
  cases hd : opnAt d tx with
  | none => exact h.self hi
  | some t =>
    simp only []
    have ht : d.opn tx.toNat = some t := by
      unfold opnAt at hd
      split at hd
      · exact hd
      · cases hd
    split
    · exact h.ends hi tx
    · exact h.done hi (h16 _ _ ht) _ fun k u hu => endD_open (d := d) (tx := tx) hu
/-- What a replica reads is what is told by all. -/
theorem Inv.reads (h : Inv n ds ts) (hi : ds[i]? = some d) (tx : Int) (key : ByteArray) : readAns (opnAt d tx) key d.hs n = readAns (opnAt d tx) key ts n := by
  obtain ⟨hl, rfl⟩ := h.at hi
  have hlen := h.len
  cases hd : opnAt ds[i] tx with
  | none => rfl
  | some t =>
    have ht : ds[i].opn tx.toNat = some t := by
      unfold opnAt at hd
      split at hd
      · exact hd
      · cases hd
    refine read_same (h.hist i hl) (h.saw i hl _ t ht).2 h.uniq fun r hr s hs => h.full r (by omega) s ?_
    have := h.own i hl r (by omega)
    omega
theorem Inv.sawIn (h : Inv n ds ts) (hi : ds[i]? = some d) (hts : ts.length ≤ 1100000) (tx : Int) (t : RTx) (hd : opnAt d tx = some t) : SawIn t ts := by
  obtain ⟨hl, rfl⟩ := h.at hi
  have hlen := h.len
  have ht : ds[i].opn tx.toNat = some t := by
    unfold opnAt at hd
    split at hd
    · exact hd
    · cases hd
  obtain ⟨a1, a2⟩ := h.saw i hl _ t ht
  have hg : ∀ r (hr : r < t.saw.length), t.saw.getD r 0 = t.saw[r] := fun r hr => by simp [hr]
  refine ⟨fun r hr => ?_, fun r hr s hs => ?_⟩
  · have b := a2 r
    have c := h.vpos i hl r
    rw [hg r hr] at b
    omega
  · have b := a2 r
    rw [hg r hr] at b
    have c := h.own i hl r (by omega)
    exact h.full r (by omega) s (by omega)
theorem Inv.room (h : Inv n ds ts) (hi : ds[i]? = some d) (hts : ts.length ≤ 1100000) : Room d := by
  obtain ⟨hl, rfl⟩ := h.at hi
  refine ⟨?_, fun j hj => ?_⟩
  · have a := (h.hist i hl).length_eq
    have b := List.length_filter_le (fun u : RTx => seesV ds[i].vis u.rep u.seq) ts
    omega
  · have c := h.vpos i hl j
    have e : ds[i].vis.getD j 0 = ds[i].vis[j] := by simp [hj]
    rw [e] at c
    omega
theorem keep_len (key : ByteArray) (ops : List ROp) : ∀ (l acc : List ByteArray), (l.foldl (keepEl key ops) acc).length ≤ acc.length + l.length
  | [], acc => by simp
  | a :: l, acc => by
    have h : (keepEl key ops acc a).length ≤ acc.length + 1 := by
      unfold keepEl; split
      · exact withOf_len _ _
      · omega
    have b := keep_len key ops l (keepEl key ops acc a)
    simp only [List.foldl_cons, List.length_cons]
    omega
theorem ins_len (key : ByteArray) (ops : List ROp) : ∀ (l acc : List ByteArray), (l.foldl (insEl key ops) acc).length ≤ acc.length + l.length
  | [], acc => by simp
  | a :: l, acc => by
    have h : (insEl key ops acc a).length ≤ acc.length + 1 := by
      unfold insEl; split
      · exact withOf_len _ _
      · omega
    have b := ins_len key ops l (insEl key ops acc a)
    simp only [List.foldl_cons, List.length_cons]
    omega
theorem register_len (v : List Int) (key : ByteArray) (ts : List RTx) (hv : ∀ r, v.getD r 0 ≤ 1100000) : ∀ n, (registerOf v key ts n).length ≤ 1100000 * n
  | 0 => by simp [registerOf]
  | n + 1 => by
    rw [registerOf_succ, List.length_append]
    have a := register_len v key ts hv n
    have b := regRow_len v key ts n (v.getD n 0).toNat
    have c := hv n
    omega
theorem Inv.readLen (h : Inv n ds ts) (hi : ds[i]? = some d) (hts : ts.length ≤ 1100000) (hn : n ≤ 5) (h16 : ∀ k t, d.opn k = some t → t.ops.length ≤ 16) (tx : Int) (key : ByteArray) : (readAns (opnAt d tx) key ts n).2.1.length ≤ 100000000 := by
  cases hd : opnAt d tx with
  | none => simp [readAns]
  | some t =>
    have ht : d.opn tx.toNat = some t := by
      unfold opnAt at hd
      split at hd
      · exact hd
      · cases hd
    obtain ⟨-, a2⟩ := h.sawOf hi ht
    obtain ⟨hl, rfl⟩ := h.at hi
    simp only [readAns]
    split
    · simp
    · split
      · cases lastOf key noEl t.ops with
        | some o => simp
        | none =>
          have := register_len t.saw key ts (fun r => by have := (a2 r).2; have := (h.vpos i hl r).2; omega) n
          show (registerOf t.saw key ts n).length ≤ 100000000
          omega
      · split
        · have b := setOf_len t.saw key ts h.few
          have c := keep_len key t.ops (setOf t.saw key ts) []
          have e := ins_len key t.ops (elemsOf key t.ops) ((setOf t.saw key ts).foldl (keepEl key t.ops) [])
          have f := elemsOf_len key t.ops
          have g := h16 _ _ ht
          simp only [List.length_nil] at c
          show (readSet key t.ops (setOf t.saw key ts)).length ≤ 100000000
          unfold readSet
          omega
        · simp
end

end Go.Proofs.YtiplgdkpnhamaaaGreatDoor
