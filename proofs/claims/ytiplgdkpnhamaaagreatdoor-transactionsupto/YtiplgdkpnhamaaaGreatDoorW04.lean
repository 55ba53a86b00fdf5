/- The texts R5, R11, R13, R14, joined. -/
import Derived.Test.YtiplgdkpnhamaaaGreatDoorW02
import Derived.Deep.RegionWith
import Derived.Laws.BytesArg

/- The reference's Register: what it answers. -/
namespace Go.Proofs.YtiplgdkpnhamaaaGreatDoor
open Go.RowKit

theorem ov1 {b0 : Bool} (b1 b2 b3 : Bool) (h : b0 = true) : Value.bool true = .bool (b0 || (b1 && b2 && b3)) := by simp [h]
theorem ov2 {b0 b1 b2 b3 : Bool} (h0 : ¬ b0 = true) (h1 : b1 = true) (h2 : b2 = true) : Value.bool b3 = .bool (b0 || (b1 && b2 && b3)) := by simp [h0, h1, h2]
theorem ov3 {b0 b1 b2 : Bool} (b3 : Bool) (h0 : ¬ b0 = true) (h1 : b1 = true) (h2 : ¬ b2 = true) : Value.bool false = .bool (b0 || (b1 && b2 && b3)) := by simp [h0, h1, h2]
theorem ov4 {b0 b1 : Bool} (b2 b3 : Bool) (h0 : ¬ b0 = true) (h1 : ¬ b1 = true) : Value.bool false = .bool (b0 || (b1 && b2 && b3)) := by simp [h0, h1]

set_option maxRecDepth 100000 in
set_option maxHeartbeats 2000000 in
theorem register_any (w : World) (gb n : Nat) (av v : Value) (xs : List XTx) (ts : List RTx) (vec : List Int) (key : ByteArray) (G : GrpIn w gb n av xs ts) (hvl : vec.length = n) (hn5 : n ≤ 5)
    (hrow : Row w 3 1 v vec.length (ints vec)) (hpos : ∀ r (h : r < vec.length), 0 ≤ vec[r] ∧ vec[r] ≤ 2000000)
    (hfull : ∀ r (h : r < vec.length) (s : Nat), (s : Int) + 1 ≤ vec[r] → ∃ t, t ∈ ts ∧ isDot (r : Int) ((s : Int) + 1) t = true) :
    Calls Tryz.prog 138 #[.pointer (some ⟨gb, 0, none⟩), v, .string key] w fun e w' => ∃ v', e = .returned v' ∧
      w'.ownsRow w.heap.size 9 1 v' (registerOf vec key ts n).length (strs (registerOf vec key ts n)) ∧ Below w.heap.size w w' := by
  obtain ⟨ao, cap, rfl, hcap, hgb⟩ := G.shape
  have hbig := G.big
  have hgn := G.hn
  have HG : Hid _ := G
  have HR : Hid _ := hrow
  have HL : Hid _ := hvl
  have HP : Hid _ := hpos
  have HF : Hid _ := hfull
  clear G hrow hvl hpos hfull
  obtain ⟨i0, hi, hz0, hz1, hz2⟩ := info_parts Tryz.infoStr
  go_enter Tryz.func138, Tryz.ntmps138
  go_wp2
  go_loopw [7, 8] (fun l r wr => ∃ rn : Nat, rn ≤ n ∧ r = .int .i64 rn ∧ wr.ownsRow w.heap.size 9 1 l (registerOf vec key ts rn).length (strs (registerOf vec key ts rn)) ∧ (registerOf vec key ts rn).length ≤ rn * 2000000 ∧ Below w.heap.size w wr) (fun _ r _ => n - (intOf r).toNat)
  case atStart => exact ⟨0, Nat.zero_le _, rfl, by simpa [registerOf, strs] using World.ownsRow_nil _ _ _ _, by simp [registerOf], Below.refl _ _⟩
  case round =>
    obtain ⟨rn, hrn, rfl, hown, hlen, hB⟩ := hrel
    have hgn1 := cell_later hB hgn
    clear hgn
    by_cases hlr : rn < n
    · have hrl : rn < vec.length := by have := HL.out; omega
      have hp := HP.out rn hrl
      have hf := HF.out rn hrl
      have HF1 : Hid _ := hf
      clear hf
      obtain ⟨gv, vcap, rfl, hvc, hvm, hgv, hvcell, _⟩ := Row.pos HR.out (by omega)
      have hv1 := hvcell rn (by omega)
      rw [ints_get _ _ hrl] at hv1
      clear hvcell
      have hvr : vec.getD rn 0 = vec[rn] := by simp [hrl]
      have HS : Hid (registerOf vec key ts (rn + 1) = registerOf vec key ts rn ++ regRow vec key ts rn vec[rn].toNat) := by
        rw [← hvr]; exact registerOf_succ _ _ _ _
      clear hvr
      obtain ⟨m, hm⟩ := Int.eq_ofNat_of_zero_le hp.1
      rw [hm] at hv1 HS HF1 hp
      rw [Int.toNat_natCast] at HS
      clear hm
      generalize registerOf vec key ts rn = base at *
      go_wp2
      go_loopw [7, 9] (fun l s wr2 => ∃ sn : Nat, sn ≤ m ∧ s = .int .i64 ((sn : Int) + 1) ∧ wr2.ownsRow w.heap.size 9 1 l (base ++ regRow vec key ts rn sn).length (strs (base ++ regRow vec key ts rn sn)) ∧ Below w.heap.size w wr2) (fun _ s _ => m + 1 - (intOf s).toNat)
      case atStart => exact ⟨0, Nat.zero_le _, rfl, by simpa [regRow] using hown, hB⟩
      case round =>
        obtain ⟨sn, hsn, rfl, hown2, hB2⟩ := hrel
        have hv2 := cell_later hB2 hv1
        have hgn2 := cell_later hB2 HG.out.hn
        have hbl : (base ++ regRow vec key ts rn sn).length ≤ 12000000 := by
          have := regRow_len vec key ts rn sn
          rw [List.length_append]; omega
        clear hgn1 hv1
        by_cases hls : sn < m
        · have HS2 : Hid (base ++ regRow vec key ts rn (sn + 1) = (base ++ regRow vec key ts rn sn) ++ regAt vec key ts (findTx ts rn ((sn : Int) + 1))) := by
            unfold Hid; rw [regRow_succ, List.append_assoc]
          obtain ⟨i, hi', hit, hno, hfx⟩ := findTx_at (HF1.out sn (by omega))
          rw [hfx] at HS2
          clear hfx
          have G2 := HG.out.below hB2
          obtain ⟨ga, x, rfl, hga, -, -, -, -, -, hrep, -⟩ := G2.pick i hi'
          have HG2 : Hid _ := G2
          have HIT : Hid _ := hit
          have HNO : Hid _ := hno
          clear G2 hit hno
          generalize base ++ regRow vec key ts rn sn = lst at *
          go_wp2_with fail
          refine (find_any _ gb n ga cap xs ts _ _ HG2.out i hi' HIT.out HNO.out).mono ?_
          rintro e w1 ⟨rfl, hB1⟩
          have G3 := HG2.out.below hB1
          obtain ⟨_, x, e, hga1, h1, h2, h3, h4, ht, -, hsl⟩ := G3.pick i hi'
          cases e
          have HT : Hid _ := ht
          have HG3 : Hid _ := G3
          clear ht G3
          generalize hti : ts[i] = t at *
          have HTI : Hid _ := hti
          clear hti
          go_wp2_with fail
          refine (last_any key noEl _ ga (i * 5) x.ov t.ops (by have := HT.out.few; omega) hga1 h4 HT.out.ops).mono ?_
          rintro e w2 ⟨he, hB3⟩
          have hB23 : Below w.heap.size w w2 := (hB2.trans (hB1.mono hB2.size)).trans (hB3.mono (Nat.le_trans hB2.size hB1.size))
          have hown3 := ownsRow_below (ownsRow_below hown2 hB1) hB3
          cases hlast : lastOf key noEl t.ops with
          | none =>
            have he' : e = .returned (.tuple #[.agg #[.int .i64 0, .string ⟨#[]⟩, .string ⟨#[]⟩, .int .i64 0], .bool false]) := by rw [he, hlast]; rfl
            subst he'
            have hra : regAt vec key ts t = [] := by unfold regAt; rw [hlast]
            rw [hra, List.append_nil] at HS2
            clear he hra hlast
            go_wp2_with fail
            exact ⟨⟨sn + 1, by omega, by go_num, by rw [HS2.out]; exact hown3.alloc _, hB23.alloc hB23.size _⟩, by simp [intOf]; omega⟩
          | some o =>
            have he' : e = .returned (.tuple #[.agg #[.int .i64 o.kind, .string o.key, .string o.value, .int .i64 o.amount], .bool true]) := by rw [he, hlast]; rfl
            subst he'
            have hra : regAt vec key ts t = if overOf vec key t ts then [] else [o.value] := by unfold regAt; rw [hlast]
            have HRA : Hid _ := hra
            clear he hra hlast h1 h2 h3 h4
            have G4 := HG3.out.below hB3
            go_wp2_with fail
            go_loopw [13, 14] (fun ov q wr3 => ∃ kn : Nat, kn ≤ ts.length ∧ q = .int .i64 kn ∧ ov = .bool (overOf vec key t (ts.take kn)) ∧ Below (w2.heap.size + 1) (w2.alloc (.cells #[.int .i64 o.kind, .string o.key, .string o.value, .int .i64 o.amount] 171)) wr3) (fun _ q _ => ts.length - (intOf q).toNat)
            case atStart => exact ⟨0, Nat.zero_le _, rfl, rfl, Below.refl _ _⟩
            case round =>
              obtain ⟨kn, hkn, rfl, rfl, hbe⟩ := hrel
              have hB5 : Below w2.heap.size w2 wr := ((Below.refl _ _).alloc (Nat.le_refl _) _).trans (hbe.mono (by omega))
              have hB25 : Below w.heap.size w wr := hB23.trans (hB5.mono hB23.size)
              have G5 := G4.below hB5
              have ha5 := G5.ha
              by_cases hlk : kn < ts.length
              · obtain ⟨_, y, e, hga5, h1, h2, h3, h4, hu, hur, hul⟩ := G5.pick kn hlk
                cases e
                obtain ⟨_, y', e, -, t1, t2, -, -, -, -, -⟩ := G5.pick i hi'
                cases e
                rw [HTI.out] at t1 t2
                have HS3 : Hid (overOf vec key t (ts.take (kn + 1)) = overStep vec key t (overOf vec key t (ts.take kn)) ts[kn]) := by
                  unfold Hid; rw [List.take_succ_eq_append_getElem hlk]; exact overOf_snoc _ _ _ _ _
                have HU : Hid _ := hu
                have HG5 : Hid _ := G5
                have hrow5 : Hid (Row wr 3 1 _ vec.length (ints vec)) := Row.below HR.out hB25
                clear hu G5
                generalize ts[kn] = u at *
                go_wp2_with fail
                refine (sees_any _ _ vec _ _ (by omega) (by have := HL.out; omega) hrow5.out).mono ?_
                rintro e w3 ⟨rfl, hB6⟩
                have ha6 := cell_later hB6 ha5
                have k3 := cell_later hB6 h3
                have k1 := cell_later hB6 t1
                have k2 := cell_later hB6 t2
                have k4 := cell_later hB6 h4
                have HU6 : Hid _ := HU.out.below hB6
                clear ha5 h1 h2 h3 h4 t1 t2
                go_wp2_with fail
                go_region_with (go_at_call 174; refine (sees_any _ _ u.saw _ _ (by omega) (by omega) (by exact Row.move HU6.out.saw (fun _ _ => rfl))).mono ?_; rintro e w4 ⟨rfl, hB7⟩)
                all_goals
                  have hB7' : Below w3.heap.size w3 w4 := ((Below.refl _ _).drew).trans hB7
                  have ha7 := cell_later hB7' ha6
                  have k7 := cell_later hB7' k4
                  have HU7 : Hid _ := HU6.out.below hB7'
                  have hga7 : ga < w4.heap.size := by have := hB6.size; have := hB7'.size; omega
                  go_wp2_with fail
                  refine (last_any key noEl _ ga (kn * 5) y.ov u.ops (by have := HU7.out.few; omega) hga7 k7 HU7.out.ops).mono ?_
                  rintro e w5 ⟨he, hB8⟩
                  obtain ⟨c0, c1, c2, c3, he'⟩ : ∃ c0 c1 c2 c3, e = .returned (.tuple #[.agg #[.int .i64 c0, .string c1, .string c2, .int .i64 c3], .bool (lastOf key noEl u.ops).isSome]) := ⟨_, _, _, _, he⟩
                  subst he'
                  clear he
                  have hsz3 : w2.heap.size + 1 ≤ wr.heap.size := by have := hbe.size; simpa using this
                  have hbe' : Below (w2.heap.size + 1) (w2.alloc (.cells #[.int .i64 o.kind, .string o.key, .string o.value, .int .i64 o.amount] 171)) w5 :=
                    ((hbe.trans (hB6.mono hsz3)).trans (hB7'.mono (Nat.le_trans hsz3 hB6.size))).trans (hB8.mono (Nat.le_trans (Nat.le_trans hsz3 hB6.size) hB7'.size))
                  have hsz5 : w2.heap.size + 1 ≤ w5.heap.size := by have := hbe'.size; simpa using this
                  unfold overStep at HS3
                  generalize overOf vec key t (ts.take kn) = b0 at *
                  generalize seesV vec u.rep u.seq = b1 at *
                  generalize seesV u.saw t.rep t.seq = b2 at *
                  generalize (lastOf key noEl u.ops).isSome = b3 at *
                  clear hB7 hB7' hB8 hB6 hbe k7 k4 k3 k2 k1 ha6 ha7
                  go_wp2_with fail
                  all_goals refine ⟨⟨kn + 1, by omega, by go_num, ?_, hbe'.alloc hsz5 _⟩, by simp [intOf]; omega⟩
                  all_goals rw [HS3.out]
                  all_goals first | exact ov1 _ _ _ ‹_› | exact ov2 ‹_› ‹_› ‹_› | exact ov3 _ ‹_› ‹_› ‹_› | exact ov4 _ _ ‹_› ‹_›
              · have e : kn = ts.length := by omega
                subst e
                rw [List.take_length]
                have hoc : wr.cell? ⟨w2.heap.size, 2, none⟩ = some (.string o.value) := by rw [hbe.cell (p := ⟨w2.heap.size, 2, none⟩) (by simp)]; simp
                have hown5 := ownsRow_below hown3 hB5
                have hw2 : w2.heap.size < wr.heap.size := by have := hbe.size; simp at this; omega
                cases hov : overOf vec key t ts
                · rw [hov, if_neg (by simp)] at HRA
                  rw [HRA.out] at HS2
                  go_wp2_with (at_builtin; refine wpList_append_own _ rfl _ _ 41 rfl w.heap.size 9 i0 (.string ⟨#[]⟩) 1 16 Tryz.underlying41 hi hz0 hz1 hz2 rfl (by decide) _ _ _ rfl (hown5.alloc _) ⟨wr.heap.size, 0, none⟩ 1 1 [.string o.value] rfl rfl (cell_one_new _ _ _) (by intro u hu; simp at hu; subst hu; rfl) (by unfold maxLen; omega) (by omega) (by have := hB25.size; simp; omega) ?_; intro v1 w6 hown6 hgrow6 hnil6)
                  have hnew : w6.ownsRow w.heap.size 9 1 v1 (base ++ regRow vec key ts rn (sn + 1)).length (strs (base ++ regRow vec key ts rn (sn + 1))) := by
                    rw [HS2.out, strs_snoc]; simpa using hown6
                  have hB6' : Below w.heap.size w w6 := (hB25.alloc hB25.size _).grown hgrow6 (by have := hB25.size; simp; omega) (fun j hj => (hown5.lt j hj).1)
                  exact ⟨⟨sn + 1, by omega, by go_num, hnew, hB6'⟩, by simp [intOf]; omega⟩
                · rw [hov, if_pos rfl] at HRA
                  rw [HRA.out, List.append_nil] at HS2
                  go_wp2
                  exact ⟨⟨sn + 1, by omega, by go_num, by rw [HS2.out]; exact hown5, hB25⟩, by simp [intOf]; omega⟩
        · have e : sn = m := by omega
          subst e
          have hrl' := regRow_len vec key ts rn sn
          go_wp2
          exact ⟨⟨rn + 1, by omega, by go_num, by rw [HS.out]; exact hown2, by rw [HS.out, List.length_append]; omega, hB2⟩, by simp [intOf]; omega⟩
    · go_wp2
      go_ret
      have e : rn = n := by omega
      subst e
      exact ⟨_, rfl, hown, hB⟩

end Go.Proofs.YtiplgdkpnhamaaaGreatDoor

/- The reference's Group.Read, counters and refusals: what it answers. -/
namespace Go.Proofs.YtiplgdkpnhamaaaGreatDoor
open Go.RowKit

/-- An answer of Read. -/
abbrev valAgg (sum : Int) (l : Value) (e : Int) : Value := .tuple #[.agg #[.int .i64 sum, l], .int .i64 e]

/-- The result's block, as it was laid. -/
structure ResBlk (w : World) (a c : Value) (t : TypeId) : Prop where
  later : ∀ {W w3 : World}, w.alloc (.cells #[a, c] t) = W → Below W.heap.size W w3 →
    w3.cell? ⟨w.heap.size, 0, none⟩ = some a ∧ w3.cell? ⟨w.heap.size, 1, none⟩ = some c ∧ (∀ j, w3.frozen? ⟨w.heap.size, j, none⟩ = false) ∧ w.heap.size < w3.heap.size
theorem resBlk (w : World) (a c : Value) (t : TypeId) : ResBlk w a c t := ⟨fun {W w3} h hB => by
  subst h
  have hs : w.heap.size < (w.alloc (.cells #[a, c] t)).heap.size := by simp
  refine ⟨?_, ?_, fun j => ?_, Nat.lt_of_lt_of_le hs hB.size⟩
  · rw [hB.cell (p := ⟨w.heap.size, 0, none⟩) hs]; simp
  · rw [hB.cell (p := ⟨w.heap.size, 1, none⟩) hs]; simp
  · rw [hB.frozen (p := ⟨w.heap.size, j, none⟩) hs]; exact frozen_new _ _ _ _⟩

set_option maxHeartbeats 1000000 in
theorem rread_no (w : World) (gb b : Nat) (v : Value) (xs : List XTx) (tx : Int) (key : ByteArray) (hn : xs.length ≤ 6)
    (hv : w.cell? ⟨b, 2, none⟩ = some v) (hrow : Row w 217 5 v xs.length (xs.flatMap XTx.cells)) (hop : isOpenAt xs tx = false) :
    Calls Tryz.prog 88 #[.pointer (some ⟨gb, 0, none⟩), .pointer (some ⟨b, 0, none⟩), .int .i64 tx, .string key] w fun e w' => e = .returned (valAgg 0 (.slice none 0 0) 4) ∧ Below w.heap.size w w' := by
  have HV : Hid ((w.alloc (.cells #[.int .i64 0, .slice none 0 0] 66)).cell? ⟨b, 2, none⟩ = some v) := by
    unfold Hid; rw [World.cell?_alloc_past _ _ _ (World.block_lt_of_cell? w _ hv)]; exact hv
  have HR := hide (hrow.alloc (.cells #[.int .i64 0, .slice none 0 0] 66))
  clear hrow hv
  go_enter Tryz.func88, Tryz.ntmps88
  go_wp2_with fail
  refine (is_any _ b v xs tx (by omega) HV.out HR.out).mono ?_
  rintro e w1 ⟨rfl, rfl⟩
  go_wp2_with fail
  exact bodyPost_ret (v := valAgg 0 (.slice none 0 0) 4) (by simp [results, Tryz.results88, go_sem]) rfl ⟨rfl, (Below.refl _ _).alloc (Nat.le_refl _) _⟩

set_option maxRecDepth 100000 in
set_option maxHeartbeats 1000000 in
theorem rread_key (w : World) (gb b : Nat) (v : Value) (xs : List XTx) (k : Nat) (key : ByteArray) (hn : xs.length ≤ 6) (hk : k < xs.length) (hkey : key.size ≤ maxLen)
    (hv : w.cell? ⟨b, 2, none⟩ = some v) (hrow : Row w 217 5 v xs.length (xs.flatMap XTx.cells)) (hop : xs[k].isOpen = true) (hkd : kindOf key = 0) :
    Calls Tryz.prog 88 #[.pointer (some ⟨gb, 0, none⟩), .pointer (some ⟨b, 0, none⟩), .int .i64 k, .string key] w fun e w' => e = .returned (valAgg 0 (.slice none 0 0) 2) ∧ Below w.heap.size w w' := by
  obtain ⟨g, cap, rfl, hcap, hm, hg, hc, hf⟩ := hrow.pos (by omega)
  have hbl : b < w.heap.size := World.block_lt_of_cell? w _ hv
  have HI : Hid (isOpenAt xs k = true) := by simp [Hid, isOpenAt, hk, hop]
  have HV : Hid ((w.alloc (.cells #[.int .i64 0, .slice none 0 0] 66)).cell? ⟨b, 2, none⟩ = some (.slice (some ⟨g, 0, none⟩) xs.length cap)) := by
    unfold Hid; rw [World.cell?_alloc_past _ _ _ hbl]; exact hv
  have HR := hide (hrow.alloc (.cells #[.int .i64 0, .slice none 0 0] 66))
  have HK := hide hkd
  clear hrow hc hop hkd
  go_enter Tryz.func88, Tryz.ntmps88
  go_wp2_with fail
  refine (is_any _ b _ xs k (by omega) HV.out HR.out).mono ?_
  rintro e w1 ⟨he, rfl⟩
  rw [HI.out] at he
  subst he
  go_wp2_with fail
  refine (kind_any key _ hkey).mono ?_
  rintro e w2 ⟨he, rfl⟩
  rw [HK.out] at he
  subst he
  go_wp2_with fail
  exact bodyPost_ret (v := valAgg 0 (.slice none 0 0) 2) (by simp [results, Tryz.results88, go_sem]) rfl ⟨rfl, (Below.refl _ _).alloc (Nat.le_refl _) _⟩

set_option maxRecDepth 100000 in
set_option maxHeartbeats 2000000 in
theorem rread_counter (w : World) (gb b n : Nat) (av v : Value) (axs xs : List XTx) (ts : List RTx) (k : Nat) (key : ByteArray) (t : RTx) (hn : xs.length ≤ 6) (hk : k < xs.length) (hkey : key.size ≤ maxLen) (G : GrpIn w gb n av axs ts)
    (hv : w.cell? ⟨b, 2, none⟩ = some v) (hrow : Row w 217 5 v xs.length (xs.flatMap XTx.cells)) (hop : xs[k].isOpen = true) (ht : TxIn w xs[k] t) (hts : t.saw.length = n) (hkd : kindOf key = 99) :
    Calls Tryz.prog 88 #[.pointer (some ⟨gb, 0, none⟩), .pointer (some ⟨b, 0, none⟩), .int .i64 k, .string key] w fun e w' => e = .returned (valAgg (wrap64 (counterOf t.saw key ts + sumOf key t.ops)) (.slice none 0 0) 0) ∧ Below w.heap.size w w' := by
  obtain ⟨g, cap, rfl, hcap, hm, hg, hc, hf⟩ := hrow.pos (by omega)
  have hbl : b < w.heap.size := World.block_lt_of_cell? w _ hv
  have h3 := hc (k * 5 + 3) (by omega)
  have h4 := hc (k * 5 + 4) (by omega)
  rw [flat_get _ 5 XTx.cells_len _ _ _ hk (by omega)] at h3 h4
  simp only [XTx.cells, List.getElem?_cons_zero, List.getElem?_cons_succ] at h3 h4
  have HI : Hid (isOpenAt xs k = true) := by simp [Hid, isOpenAt, hk, hop]
  have hB0 : Below w.heap.size w (w.alloc (.cells #[.int .i64 0, .slice none 0 0] 66)) := (Below.refl _ _).alloc (Nat.le_refl _) _
  have HV := hide (cell_later hB0 hv)
  have HR := hide (Row.below hrow hB0)
  have HG := hide (G.below hB0)
  have HT := hide (ht.below hB0)
  have HK := hide hkd
  have HTS := hide hts
  have h31 := cell_later hB0 h3
  have h41 := cell_later hB0 h4
  have hv1 := cell_later hB0 hv
  have HRC := hide (resBlk w (.int .i64 0) (.slice none 0 0) 66)
  clear hrow hc hop hkd G ht hts hf h3 h4 hv
  generalize hW : w.alloc (.cells #[.int .i64 0, .slice none 0 0] 66) = W at *
  go_enter Tryz.func88, Tryz.ntmps88
  go_wp2_with fail
  have HWW := hide hW
  clear hW
  refine (is_any _ b _ xs k (by omega) HV.out HR.out).mono ?_
  rintro e w1 ⟨he, rfl⟩
  rw [HI.out] at he
  subst he
  go_wp2_with fail
  refine (kind_any key _ hkey).mono ?_
  rintro e w2 ⟨he, rfl⟩
  rw [HK.out] at he
  subst he
  go_wp2_with fail
  refine (counter_any _ gb n av _ axs ts t.saw key HG.out HTS.out HT.out.saw).mono ?_
  rintro e w3 ⟨rfl, hB3⟩
  obtain ⟨r0, r1, rf, rl⟩ := HRC.out.later HWW.out hB3
  have h43 := cell_later hB3 h41
  have HT3 := hide (HT.out.below hB3)
  have hB03 : Hid (Below w.heap.size w w3) := hB0.trans (hB3.mono hB0.size)
  go_wp2_with fail
  refine (sum_any key _ g (k * 5) _ t.ops (by have := HT3.out.few; omega) h43 HT3.out.ops).mono ?_
  rintro e w4 ⟨rfl, rfl⟩
  go_wp2_with fail
  refine bodyPost_ret (v := valAgg (wrap64 (counterOf t.saw key ts + sumOf key t.ops)) (.slice none 0 0) 0) (by simp [results, Tryz.results88, go_sem, r0, r1]) rfl ⟨rfl, ?_⟩
  exact (hB03.out.setCell (Nat.le_refl _) _).setCell (Nat.le_refl _) _

set_option maxRecDepth 100000 in
set_option maxHeartbeats 2000000 in
theorem rread_own (w : World) (gb b n : Nat) (av v : Value) (axs xs : List XTx) (ts : List RTx) (k : Nat) (key : ByteArray) (t : RTx) (o : ROp) (hn : xs.length ≤ 6) (hk : k < xs.length) (hkey : key.size ≤ maxLen) (G : GrpIn w gb n av axs ts)
    (hv : w.cell? ⟨b, 2, none⟩ = some v) (hrow : Row w 217 5 v xs.length (xs.flatMap XTx.cells)) (hop : xs[k].isOpen = true) (ht : TxIn w xs[k] t) (hts : t.saw.length = n) (hkd : kindOf key = 114) (hlast : lastOf key noEl t.ops = some o) :
    Calls Tryz.prog 88 #[.pointer (some ⟨gb, 0, none⟩), .pointer (some ⟨b, 0, none⟩), .int .i64 k, .string key] w fun e w' => ∃ lv, e = .returned (valAgg 0 lv 0) ∧ w'.ownsRow w.heap.size 9 1 lv 1 (strs [o.value]) ∧ Below w.heap.size w w' := by
  obtain ⟨g, cap, rfl, hcap, hm, hg, hc, hf⟩ := hrow.pos (by omega)
  have hbl : b < w.heap.size := World.block_lt_of_cell? w _ hv
  have h3 := hc (k * 5 + 3) (by omega)
  have h4 := hc (k * 5 + 4) (by omega)
  rw [flat_get _ 5 XTx.cells_len _ _ _ hk (by omega)] at h3 h4
  simp only [XTx.cells, List.getElem?_cons_zero, List.getElem?_cons_succ] at h3 h4
  have HI : Hid (isOpenAt xs k = true) := by simp [Hid, isOpenAt, hk, hop]
  have hB0 : Below w.heap.size w (w.alloc (.cells #[.int .i64 0, .slice none 0 0] 66)) := (Below.refl _ _).alloc (Nat.le_refl _) _
  have hW1 : (w.alloc (.cells #[.int .i64 0, .slice none 0 0] 66)).heap.size = w.heap.size + 1 := by simp
  have HW1 := hide hW1
  clear hW1
  have HV := hide (cell_later hB0 hv)
  have HR := hide (Row.below hrow hB0)
  have HG := hide (G.below hB0)
  have HT := hide (ht.below hB0)
  have HK := hide hkd
  have HTS := hide hts
  have h31 := cell_later hB0 h3
  have h41 := cell_later hB0 h4
  have hv1 := cell_later hB0 hv
  have HRC := hide (resBlk w (.int .i64 0) (.slice none 0 0) 66)
  clear hrow hc hop hkd G ht hts hf h3 h4 hv
  generalize hW : w.alloc (.cells #[.int .i64 0, .slice none 0 0] 66) = W at *
  have hgW : g < W.heap.size := by have := HW1.out; omega
  go_enter Tryz.func88, Tryz.ntmps88
  go_wp2_with fail
  have HWW := hide hW
  clear hW
  refine (is_any _ b _ xs k (by omega) HV.out HR.out).mono ?_
  rintro e w1 ⟨he, rfl⟩
  rw [HI.out] at he
  subst he
  go_wp2_with fail
  refine (kind_any key _ hkey).mono ?_
  rintro e w2 ⟨he, rfl⟩
  rw [HK.out] at he
  subst he
  go_wp2_with fail
  refine (last_any key noEl _ g (k * 5) _ t.ops (by have := HT.out.few; omega) hgW h41 HT.out.ops).mono ?_
  rintro e w3 ⟨he, hB3⟩
  have he' : e = .returned (.tuple #[.agg #[.int .i64 o.kind, .string o.key, .string o.value, .int .i64 o.amount], .bool true]) := by rw [he, hlast]; rfl
  subst he'
  obtain ⟨r0, r1, rf, rl⟩ := HRC.out.later HWW.out hB3
  have hB03 : Hid (Below w.heap.size w w3) := hB0.trans (hB3.mono hB0.size)
  clear he hlast
  go_wp2_with fail
  refine bodyPost_ret (v := valAgg 0 (.slice (some ⟨w3.heap.size + 1, 0, none⟩) 1 1) 0) (by simp [results, Tryz.results88, go_sem, r0, r1, rl]) rfl ⟨_, rfl, ?_, ?_⟩
  · have hle := hB03.out.size
    have a := World.ownsRow_lit (base := w.heap.size) (e := 9) (size := 1) (((w3.setCell ⟨w.heap.size, 0, none⟩ (.int .i64 0)).setCell ⟨w.heap.size, 1, none⟩ (.slice (some ⟨w3.heap.size + 1, 0, none⟩) 1 1)).alloc (.cells #[.int .i64 o.kind, .string o.key, .string o.value, .int .i64 o.amount] 171)) #[.string o.value] 1 (by simp; omega) (by unfold maxLen; omega) rfl
    simpa [strs] using a
  · exact (((hB03.out.setCell (Nat.le_refl _) _).setCell (Nat.le_refl _) _).alloc (by have := hB03.out.size; simp; omega) _).alloc (by have := hB03.out.size; simp; omega) _

set_option maxRecDepth 100000 in
set_option maxHeartbeats 2000000 in
theorem rread_told (w : World) (gb b n : Nat) (av v : Value) (axs xs : List XTx) (ts : List RTx) (k : Nat) (key : ByteArray) (t : RTx) (hn : xs.length ≤ 6) (hk : k < xs.length) (hkey : key.size ≤ maxLen) (G : GrpIn w gb n av axs ts)
    (hv : w.cell? ⟨b, 2, none⟩ = some v) (hrow : Row w 217 5 v xs.length (xs.flatMap XTx.cells)) (hop : xs[k].isOpen = true) (ht : TxIn w xs[k] t) (hts : t.saw.length = n) (hkd : kindOf key = 114) (hlast : lastOf key noEl t.ops = Option.none) (hn5 : n ≤ 5) (hpos : ∀ r (h : r < t.saw.length), 0 ≤ t.saw[r] ∧ t.saw[r] ≤ 2000000) (hfull : ∀ r (h : r < t.saw.length) (s : Nat), (s : Int) + 1 ≤ t.saw[r] → ∃ u, u ∈ ts ∧ isDot (r : Int) ((s : Int) + 1) u = true) :
    Calls Tryz.prog 88 #[.pointer (some ⟨gb, 0, none⟩), .pointer (some ⟨b, 0, none⟩), .int .i64 k, .string key] w fun e w' => ∃ lv, e = .returned (valAgg 0 lv 0) ∧ w'.ownsRow w.heap.size 9 1 lv (registerOf t.saw key ts n).length (strs (registerOf t.saw key ts n)) ∧ Below w.heap.size w w' := by
  obtain ⟨g, cap, rfl, hcap, hm, hg, hc, hf⟩ := hrow.pos (by omega)
  have hbl : b < w.heap.size := World.block_lt_of_cell? w _ hv
  have h3 := hc (k * 5 + 3) (by omega)
  have h4 := hc (k * 5 + 4) (by omega)
  rw [flat_get _ 5 XTx.cells_len _ _ _ hk (by omega)] at h3 h4
  simp only [XTx.cells, List.getElem?_cons_zero, List.getElem?_cons_succ] at h3 h4
  have HI : Hid (isOpenAt xs k = true) := by simp [Hid, isOpenAt, hk, hop]
  have hB0 : Below w.heap.size w (w.alloc (.cells #[.int .i64 0, .slice none 0 0] 66)) := (Below.refl _ _).alloc (Nat.le_refl _) _
  have hW1 : (w.alloc (.cells #[.int .i64 0, .slice none 0 0] 66)).heap.size = w.heap.size + 1 := by simp
  have HW1 := hide hW1
  clear hW1
  have HV := hide (cell_later hB0 hv)
  have HR := hide (Row.below hrow hB0)
  have HG := hide (G.below hB0)
  have HT := hide (ht.below hB0)
  have HK := hide hkd
  have HTS := hide hts
  have h31 := cell_later hB0 h3
  have h41 := cell_later hB0 h4
  have hv1 := cell_later hB0 hv
  have HRC := hide (resBlk w (.int .i64 0) (.slice none 0 0) 66)
  clear hrow hc hop hkd G ht hts hf h3 h4 hv
  generalize hW : w.alloc (.cells #[.int .i64 0, .slice none 0 0] 66) = W at *
  have hgW : g < W.heap.size := by have := HW1.out; omega
  go_enter Tryz.func88, Tryz.ntmps88
  go_wp2_with fail
  have HWW := hide hW
  clear hW
  refine (is_any _ b _ xs k (by omega) HV.out HR.out).mono ?_
  rintro e w1 ⟨he, rfl⟩
  rw [HI.out] at he
  subst he
  go_wp2_with fail
  refine (kind_any key _ hkey).mono ?_
  rintro e w2 ⟨he, rfl⟩
  rw [HK.out] at he
  subst he
  go_wp2_with fail
  refine (last_any key noEl _ g (k * 5) _ t.ops (by have := HT.out.few; omega) hgW h41 HT.out.ops).mono ?_
  rintro e w3 ⟨he, hB3⟩
  have he' : e = .returned (.tuple #[.agg #[.int .i64 0, .string ⟨#[]⟩, .string ⟨#[]⟩, .int .i64 0], .bool false]) := by rw [he, hlast]; rfl
  subst he'
  have hB3' : Below w2.heap.size w2 (w3.alloc (.cells #[.int .i64 0, .string ⟨#[]⟩, .string ⟨#[]⟩, .int .i64 0] 171)) := hB3.alloc hB3.size _
  have h33 := cell_later hB3 h31
  have hg3 : g < w3.heap.size := by have := hB3.size; omega
  have HG3 := hide (HG.out.below hB3')
  have HT3 := hide (HT.out.below hB3')
  have HP := hide hpos
  have HF := hide hfull
  clear he hlast hpos hfull
  go_wp2_with fail
  refine (register_any _ gb n av _ axs ts t.saw key HG3.out HTS.out hn5 HT3.out.saw HP.out HF.out).mono ?_
  rintro e w4 ⟨lv, rfl, hl4, hB4⟩
  have hBW4 : Below w2.heap.size w2 w4 := hB3'.trans (hB4.mono hB3'.size)
  obtain ⟨r0, r1, rf, rl⟩ := HRC.out.later HWW.out hBW4
  have hB04 : Hid (Below w.heap.size w w4) := hB0.trans (hBW4.mono hB0.size)
  obtain ⟨lo, lcap, rfl, -, -, -⟩ := Row.shape (ownsRow_low hl4 (Nat.zero_le _))
  have HL4 := hide hl4
  clear hl4
  generalize hLL : registerOf t.saw key ts n = L at *
  have HLL := hide hLL
  clear hLL
  go_wp2_with fail
  refine bodyPost_ret (v := valAgg 0 (.slice lo L.length lcap) 0) (by simp [results, Tryz.results88, go_sem, r0, r1]) rfl ⟨_, rfl, ?_, ?_⟩
  · rw [HLL.out]
    have h1 := HW1.out
    have h2 := hB3'.size
    have h3 : (w3.alloc (.cells #[.int .i64 0, .string ⟨#[]⟩, .string ⟨#[]⟩, .int .i64 0] 171)).heap.size = w3.heap.size + 1 := by simp
    exact ownsRow_low (ownsRow_setCell_below (ownsRow_setCell_below HL4.out (a := ⟨w.heap.size, 0, none⟩) (by show w.heap.size < (w3.alloc (.cells #[.int .i64 0, .string ⟨#[]⟩, .string ⟨#[]⟩, .int .i64 0] 171)).heap.size; omega) _) (a := ⟨w.heap.size, 1, none⟩) (by show w.heap.size < (w3.alloc (.cells #[.int .i64 0, .string ⟨#[]⟩, .string ⟨#[]⟩, .int .i64 0] 171)).heap.size; omega) _) (Nat.le_trans (show w.heap.size ≤ w2.heap.size by omega) h2)
  · exact (hB04.out.setCell (Nat.le_refl _) _).setCell (Nat.le_refl _) _

end Go.Proofs.YtiplgdkpnhamaaaGreatDoor

/- The reference's Fits; the law's pick and same: what each answers. -/
namespace Go.Proofs.YtiplgdkpnhamaaaGreatDoor
open Go.RowKit

def fitsB (r n : Int) : Bool := decide (1 ≤ n ∧ n ≤ 5 ∧ 0 ≤ r ∧ r < n)
set_option maxHeartbeats 400000 in
theorem fits_any (r n : Int) (w : World) : Calls Tryz.prog 49 #[.int .i64 r, .int .i64 n] w fun e w' => e = .returned (.bool (fitsB r n)) ∧ w' = w := by
  by_cases h1 : 1 ≤ n
  · by_cases h2 : n ≤ 5
    · by_cases h3 : 0 ≤ r
      · by_cases h4 : r < n
        · have HS : Hid (fitsB r n = true) := decide_eq_true ⟨h1, h2, h3, h4⟩
          go_enter Tryz.func49, Tryz.ntmps49
          go_wp2
          go_ret
          exact ⟨ret_bool (by rw [HS.out]), rfl⟩
        · have HS : Hid (fitsB r n = false) := decide_eq_false (fun h => h4 h.2.2.2)
          go_enter Tryz.func49, Tryz.ntmps49
          go_wp2
          go_ret
          exact ⟨ret_bool (by rw [HS.out]), rfl⟩
      · have HS : Hid (fitsB r n = false) := decide_eq_false (fun h => h3 h.2.2.1)
        go_enter Tryz.func49, Tryz.ntmps49
        go_wp2
        go_ret
        exact ⟨ret_bool (by rw [HS.out]), rfl⟩
    · have HS : Hid (fitsB r n = false) := decide_eq_false (fun h => h2 h.2.1)
      go_enter Tryz.func49, Tryz.ntmps49
      go_wp2
      go_ret
      exact ⟨ret_bool (by rw [HS.out]), rfl⟩
  · have HS : Hid (fitsB r n = false) := decide_eq_false (fun h => h1 h.1)
    go_enter Tryz.func49, Tryz.ntmps49
    go_wp2
    go_ret
    exact ⟨ret_bool (by rw [HS.out]), rfl⟩

/-- Which of n things a raw number speaks of. -/
def pickOf (c : Int) (n : Nat) : Nat := if c < 0 then ((-(c + 1)) % n).toNat else (c % n).toNat
theorem pickOf_lt (c : Int) (n : Nat) (h : 0 < n) : pickOf c n < n := by
  have h1 := Int.emod_lt_of_pos (-(c + 1)) (show (0 : Int) < n by omega)
  have h2 := Int.emod_lt_of_pos c (show (0 : Int) < n by omega)
  have h3 := Int.emod_nonneg (-(c + 1)) (show (n : Int) ≠ 0 by omega)
  have h4 := Int.emod_nonneg c (show (n : Int) ≠ 0 by omega)
  unfold pickOf; split <;> omega
set_option maxHeartbeats 400000 in
theorem pick_any (c : Int) (n : Nat) (w : World) (hn : 0 < n) (hn' : n ≤ 5) (hc : -9223372036854775808 ≤ c) (hc' : c ≤ 9223372036854775807) :
    Calls Tryz.prog 51 #[.int .i64 c, .int .i64 n] w fun e w' => e = .returned (.int .i64 (pickOf c n)) ∧ w' = w := by
  by_cases h : c < 0
  · have HS : Hid ((pickOf c n : Int) = (-(c + 1)) % n) := by
      have h3 := Int.emod_nonneg (-(c + 1)) (show (n : Int) ≠ 0 by omega)
      unfold Hid pickOf; rw [if_pos h]; omega
    go_enter Tryz.func51, Tryz.ntmps51
    go_wp2
    all_goals go_ret
    all_goals refine ⟨ret_int ?_, rfl⟩
    all_goals rw [HS.out, ← Int.neg_tmod, Int.tmod_eq_emod_of_nonneg (by omega)]
  · have HS : Hid ((pickOf c n : Int) = c % n) := by
      have h3 := Int.emod_nonneg c (show (n : Int) ≠ 0 by omega)
      unfold Hid pickOf; rw [if_neg h]; omega
    go_enter Tryz.func51, Tryz.ntmps51
    go_wp2
    all_goals go_ret
    all_goals refine ⟨ret_int ?_, rfl⟩
    all_goals rw [HS.out]

/-- Are two answers of Read alike? -/
def sameB (a b : Int) (l m : List ByteArray) : Bool := decide (a = b ∧ l = m)
set_option maxRecDepth 100000 in
set_option maxHeartbeats 1000000 in
theorem same_any (w : World) (a b : Int) (lv mv : Value) (l m : List ByteArray) (hl : Row w 9 1 lv l.length (strs l)) (hm : Row w 9 1 mv m.length (strs m)) (hb : l.length ≤ 100000000) (hb' : m.length ≤ 100000000) :
    Calls Tryz.prog 89 #[.agg #[.int .i64 a, lv], .agg #[.int .i64 b, mv]] w fun e w' => e = .returned (.bool (sameB a b l m)) ∧ Below w.heap.size w w' := by
  obtain ⟨lo, lcap, rfl, -, -, lc⟩ := hl.shape
  obtain ⟨mo, mcap, rfl, -, -, mc⟩ := hm.shape
  have llt := fun q hq => hl.lt (k := q) hq
  have mlt := fun q hq => hm.lt (k := q) hq
  clear hl hm
  have hB0 : Below w.heap.size w ((w.alloc (.cells #[.int .i64 a, .slice lo l.length lcap] 66)).alloc (.cells #[.int .i64 b, .slice mo m.length mcap] 66)) := ((Below.refl _ _).alloc (Nat.le_refl _) _).alloc (by simp) _
  by_cases hab : a = b
  · have hab' : (a != b) = false := by rw [hab]; simp
    by_cases hlen : l.length = m.length
    · have hlen' : ((l.length : Int) != m.length) = false := by rw [hlen]; simp
      have HL := hide hlen
      have HAB := hide hab
      clear hlen hab
      go_enter Tryz.func89, Tryz.ntmps89
      go_wp2_with fail
      go_loopw [5] (fun i wr => ∃ k : Nat, k ≤ l.length ∧ i = .int .i64 k ∧ (∀ j (hj : j < l.length) (hj' : j < m.length), j < k → l[j] = m[j]) ∧ Below (w.heap.size + 2) ((w.alloc (.cells #[.int .i64 a, .slice lo l.length lcap] 66)).alloc (.cells #[.int .i64 b, .slice mo m.length mcap] 66)) wr) (fun i _ => l.length - (intOf i).toNat)
      case atStart => exact ⟨0, Nat.zero_le _, rfl, fun j _ _ h => by omega, Below.refl _ _⟩
      case round =>
        obtain ⟨k, hk, rfl, hal, hbe⟩ := hrel
        have HA := hide hal
        have hB : Hid (Below w.heap.size w wr) := hB0.trans (hbe.mono (by omega))
        have c1 : wr.cell? ⟨w.heap.size, 1, none⟩ = some (.slice lo l.length lcap) := by rw [hbe.cell (p := ⟨w.heap.size, 1, none⟩) (by simp)]; simp [go_sem]
        have c2 : wr.cell? ⟨w.heap.size + 1, 1, none⟩ = some (.slice mo m.length mcap) := by rw [hbe.cell (p := ⟨w.heap.size + 1, 1, none⟩) (by simp)]; simp [go_sem]
        clear hal
        by_cases hlk : k < l.length
        · have hmk : k < m.length := by have := HL.out; omega
          obtain ⟨g1, rfl, u1⟩ := lc k (by omega)
          obtain ⟨g2, rfl, u2⟩ := mc k (by omega)
          rw [strs_get _ _ hlk] at u1
          rw [strs_get _ _ hmk] at u2
          have v1 := cell_later hB.out u1
          have v2 := cell_later hB.out u2
          clear lc mc u1 u2
          by_cases he : l[k] = m[k]
          · have he' : (l[k].toList == m[k].toList) = true := str_eq.2 he
            have HA' : Hid (∀ j (hj : j < l.length) (hj' : j < m.length), j < k + 1 → l[j] = m[j]) := fun j hj hj' h => by
              by_cases e : j = k
              · subst e; exact he
              · exact HA.out j hj hj' (by omega)
            clear he HA
            generalize l[k] = x at *
            generalize m[k] = y at *
            go_wp2
            go_quiet (fail)
            go_wp2
            exact ⟨⟨k + 1, by omega, by go_num, HA'.out, below_drewN hbe _⟩, by simp [intOf]; omega⟩
          · have he' : (l[k].toList == m[k].toList) = false := str_ne.2 he
            have HS : Hid (sameB a b l m = false) := decide_eq_false (fun h => by obtain ⟨_, rfl⟩ := h; exact he rfl)
            clear he HA
            generalize l[k] = x at *
            generalize m[k] = y at *
            go_wp2
            go_quiet (fail)
            go_wp2
            go_ret
            exact ⟨ret_bool (by rw [HS.out]), below_drewN hB.out _⟩
        · have HS : Hid (sameB a b l m = true) := decide_eq_true ⟨HAB.out, List.ext_getElem HL.out fun j h1 h2 => HA.out j h1 h2 (by omega)⟩
          clear HA lc mc
          go_wp2
          go_ret
          exact ⟨ret_bool (by rw [HS.out]), hB.out⟩
    · have hlen' : ((l.length : Int) != m.length) = true := by simp; omega
      have HS : Hid (sameB a b l m = false) := decide_eq_false (fun h => hlen (by rw [h.2]))
      clear hlen hab
      go_enter Tryz.func89, Tryz.ntmps89
      go_wp2_with fail
      go_ret
      exact ⟨ret_bool (by rw [HS.out]), hB0⟩
  · have hab' : (a != b) = true := by simp; exact hab
    have HS : Hid (sameB a b l m = false) := decide_eq_false (fun h => hab h.1)
    clear hab
    go_enter Tryz.func89, Tryz.ntmps89
    go_wp2_with fail
    go_ret
    exact ⟨ret_bool (by rw [HS.out]), hB0⟩

end Go.Proofs.YtiplgdkpnhamaaaGreatDoor

/- The law's word: a mark as a text. -/
namespace Go.Proofs.YtiplgdkpnhamaaaGreatDoor
open Go.RowKit

def oneByte (c : Int) : ByteArray := strOfNums [c]
theorem oneByte_size (c : Int) : (oneByte c).size = 1 := rfl
def wordTo : Nat → Int → ByteArray → ByteArray
  | 0, _, s => s
  | k + 1, q, s => wordTo k (q / 16) (s ++ oneByte (97 + q % 16))
/-- A mark as a text. -/
def wordOf (mark : Int) : ByteArray := wordTo 9 mark ⟨#[35]⟩
theorem conv_one (w : World) (c : Int) : (convert 135 9 (.slice (some ⟨w.heap.size, 0, none⟩) 1 1)).run Tryz.prog (w.alloc (.cells #[.int .u8 c] 5)) = .ok (.string (oneByte c)) (w.alloc (.cells #[.int .u8 c] 5)) := by
  refine run_convert_bytes_arg (w := w.alloc (.cells #[.int .u8 c] 5)) 135 5 Tryz.underlying135 Tryz.underlying5 w.heap.size 0 1 1 [c] rfl ?_ 9 Tryz.underlying9
  intro i hi
  have : i = 0 := by omega
  subst this
  simp

set_option maxRecDepth 100000 in
set_option maxHeartbeats 400000 in
theorem word_any (mark : Int) (w : World) (h0 : 0 ≤ mark) (h1 : mark ≤ 4000000000) :
    Calls Tryz.prog 55 #[.int .i64 mark] w fun e w' => e = .returned (.string (wordOf mark)) ∧ Below w.heap.size w w' := by
  have hcv := conv_one
  go_enter Tryz.func55, Tryz.ntmps55
  go_wp2
  go_loopw [0, 3, 4] (fun m t i wr => ∃ (k : Nat) (q : Int) (s : ByteArray), k ≤ 9 ∧ i = .int .i64 k ∧ m = .int .i64 q ∧ 0 ≤ q ∧ q ≤ 4000000000 ∧ t = .string s ∧ s.size = k + 1 ∧ wordTo (9 - k) q s = wordOf mark ∧ Below w.heap.size w wr) (fun _ _ i _ => 9 - (intOf i).toNat)
  case atStart => exact ⟨0, mark, _, by omega, rfl, rfl, h0, h1, rfl, rfl, rfl, Below.refl _ _⟩
  case round =>
    obtain ⟨k, q, s, hk, rfl, rfl, hq0, hq1, rfl, hs, hwt, hB⟩ := hrel
    have HW := hide hwt
    have HS := hide hs
    clear hwt hs
    by_cases hlk : k < 9
    · have hs1 : s.size ≤ 10 := by have := HS.out; omega
      have hs2 : (oneByte (97 + q % 16)).size ≤ 1 := by rw [oneByte_size]; exact Nat.le_refl _
      have HW' : Hid (wordTo (9 - (k + 1)) (q / 16) (s ++ oneByte (97 + q % 16)) = wordOf mark) := by
        have e : 9 - k = (9 - (k + 1)) + 1 := by omega
        have h := HW.out
        rw [e] at h
        exact h
      have HS' : Hid ((s ++ oneByte (97 + q % 16)).size = k + 1 + 1) := by
        unfold Hid; rw [ByteArray.size_append, HS.out, oneByte_size]
      go_wp2
      exact ⟨⟨k + 1, q / 16, _, by omega, by go_num, rfl, by omega, by omega, rfl, HS'.out, HW'.out, hB.alloc hB.size _⟩, by simp [intOf]; omega⟩
    · have e : 9 - k = 0 := by omega
      rw [e] at HW
      clear e
      go_wp2
      go_ret
      refine ⟨?_, hB⟩
      rw [← HW.out]; rfl

end Go.Proofs.YtiplgdkpnhamaaaGreatDoor
