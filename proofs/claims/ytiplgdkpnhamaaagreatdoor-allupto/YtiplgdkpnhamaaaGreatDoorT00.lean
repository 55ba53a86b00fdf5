/- Short words. -/
import Derived.WalkKit
import Derived.WalkSpells
import Derived.WalkLawsBesides
import Derived.Deep.QuietTactic
import Derived.BigQuiet
import Derived.Test.YtiplgdkpnhamaaaGreatDoorProg
import Derived.Maps.AppendAt
namespace Go.RowKit
theorem Hid.o {p:Prop}(h:Hid p):p:=h
end Go.RowKit
namespace Go.Proofs.YtiplgdkpnhamaaaGreatDoor
open Go.RowKit
theorem cy {p:Prop}(h:p):Hid p:=h
abbrev ax (w W:World):Prop:=Below w.heap.size w W
abbrev bx (v:Value)(P:World->Prop):Ending->World->Prop:=fun e w'=>e= .returned v∧P w'
theorem cv {n:Nat}:n<=n:=Nat.le_refl n
theorem ch {n:Nat}:0<=n:=Nat.zero_le n
theorem cE {b:Nat}{w:World}:Below b w w:=Below.refl _ _
abbrev I (z:Int):Value:= .int .i64 z
abbrev ai (b:ByteArray):Value:= .string b
abbrev bo (g n c:Nat):Value:= .slice (some ⟨g,0,none⟩) n c
abbrev aa (b k:Nat):Addr:=⟨b,k,none⟩
theorem cj (w:World)(o:Obj):Below w.heap.size w (w.alloc o):=(Below.refl _ _).alloc (Nat.le_refl _) _
abbrev eh (w:World)(b k:Nat)(v:Value):Prop:=w.cell? ⟨b,k,none⟩=some v
theorem bZ:type_of% @Go.cell_later:= @Go.cell_later
theorem cC:type_of% @Go.heap_alloc_new:= @Go.heap_alloc_new
theorem eN:type_of% @List.length_append:= @List.length_append
theorem eT:type_of% @List.getElem_mem:= @List.getElem_mem
theorem fx:type_of% @Nat.le_trans:= @Nat.le_trans
theorem fQ:type_of% @List.mem_iff_getElem:= @List.mem_iff_getElem
theorem gE:type_of% @Go.RowKit.Hid.out:= @Go.RowKit.Hid.out
theorem gF:type_of% @List.mem_map:= @List.mem_map
theorem gG:type_of% @Go.wpQuiet_nil:= @Go.wpQuiet_nil
theorem hg:type_of% @List.getElem?_eq_getElem:= @List.getElem?_eq_getElem
theorem hT:type_of% @List.mem_append:= @List.mem_append
theorem hU:type_of% @Go.World.block_lt_of_cell?:= @Go.World.block_lt_of_cell?
theorem hV:type_of% @Nat.lt_of_lt_of_le:= @Nat.lt_of_lt_of_le
theorem h2:type_of% @Go.World.ownsRow.alloc:= @Go.World.ownsRow.alloc
theorem h3:type_of% @List.mem_cons:= @List.mem_cons
theorem iV:type_of% @Go.info_parts:= @Go.info_parts
theorem jg:type_of% @List.getElem?_cons_zero:= @List.getElem?_cons_zero
theorem iW:type_of% @Go.RowKit.Below.heap_alloc:= @Go.RowKit.Below.heap_alloc
theorem iX:type_of% @Go.bodyPost_ret:= @Go.bodyPost_ret
theorem ju:type_of% @List.take_zero:= @List.take_zero
theorem jC:type_of% @List.take_succ_cons:= @List.take_succ_cons
theorem j3:type_of% @Nat.add_zero:= @Nat.add_zero
theorem jD:type_of% @Go.World.ownsRow_nil:= @Go.World.ownsRow_nil
theorem jR:type_of% @List.drop_zero:= @List.drop_zero
theorem j4:type_of% @List.drop_succ_cons:= @List.drop_succ_cons
theorem kf:type_of% @List.flatMap_cons:= @List.flatMap_cons
theorem k4:type_of% @List.mem_singleton:= @List.mem_singleton
theorem kK:type_of% @List.getElem?_cons_succ:= @List.getElem?_cons_succ
theorem kr:type_of% @List.take_succ_eq_append_getElem:= @List.take_succ_eq_append_getElem
theorem kt:type_of% @Option.some.inj:= @Option.some.inj
theorem kL:type_of% @Int.toNat_natCast:= @Int.toNat_natCast
theorem mn:type_of% @Option.isSome_iff_exists:= @Option.isSome_iff_exists
theorem k5:type_of% @List.length_set:= @List.length_set
theorem mN:type_of% @List.append_assoc:= @List.append_assoc
theorem lP:type_of% @List.length_cons:= @List.length_cons
theorem ly:type_of% @Go.World.ownsRow.stored:= @Go.World.ownsRow.stored
theorem lQ:type_of% @List.take_of_length_le:= @List.take_of_length_le
theorem mO:type_of% @List.length_map:= @List.length_map
theorem mo:type_of% @decide_eq_true_eq:= @decide_eq_true_eq
theorem ng:type_of% @List.length_take:= @List.length_take
theorem sM:type_of% @of_decide_eq_true:= @of_decide_eq_true
theorem qu:type_of% @List.append_nil:= @List.append_nil
theorem ra:type_of% @List.mem_filter:= @List.mem_filter
theorem qv:type_of% @Bool.and_eq_true:= @Bool.and_eq_true
theorem pU:type_of% @Nat.le_succ:= @Nat.le_succ
theorem qw:type_of% @Go.cell_one_new:= @Go.cell_one_new
theorem tI:type_of% @List.take_length:= @List.take_length
theorem rb:type_of% @Go.RowKit.Below.heap_setCell:= @Go.RowKit.Below.heap_setCell
theorem re:type_of% @Int.le_refl:= @Int.le_refl
theorem rf:type_of% @Go.World.setCell_alloc_past:= @Go.World.setCell_alloc_past
theorem Hz:type_of% @Go.RowKit.Below.refl:= @Go.RowKit.Below.refl
theorem r3:type_of% @List.flatMap_append:= @List.flatMap_append
theorem sN:type_of% @Go.Value.slice.inj:= @Go.Value.slice.inj
theorem sO:type_of% @List.foldl_cons:= @List.foldl_cons
theorem tJ:type_of% @List.map_append:= @List.map_append
theorem aqX:type_of% @Nat.zero_le:= @Nat.zero_le
theorem uC:type_of% @if_true:= @if_true
theorem tK:type_of% @Go.wpList_append_own_at:= @Go.wpList_append_own_at
theorem tL:type_of% @List.getD_eq_getElem?_getD:= @List.getD_eq_getElem?_getD
theorem w1:type_of% @List.nil_append:= @List.nil_append
theorem uD:type_of% @List.mem_flatMap:= @List.mem_flatMap
theorem ym:type_of% @Go.below_drewN:= @Go.below_drewN
theorem vC:type_of% @Int.le_trans:= @Int.le_trans
theorem w3:type_of% @List.length_nil:= @List.length_nil
theorem vD:type_of% @List.pairwise_iff_getElem:= @List.pairwise_iff_getElem
theorem w4:type_of% @Nat.add_mul:= @Nat.add_mul
theorem vE:type_of% @Nat.lt_or_ge:= @Nat.lt_or_ge
theorem vF:type_of% @Nat.zero_add:= @Nat.zero_add
theorem vG:type_of% @decide_eq_false:= @decide_eq_false
theorem w6:type_of% @Array.getElem?_eq_some_iff:= @Array.getElem?_eq_some_iff
theorem w7:type_of% @List.getElem?_append_left:= @List.getElem?_append_left
theorem w8:type_of% @List.getElem?_eq_some_iff:= @List.getElem?_eq_some_iff
theorem w9:type_of% @List.getElem_set_ne:= @List.getElem_set_ne
theorem w_:type_of% @List.getElem_set_self:= @List.getElem_set_self
theorem yn:type_of% @List.nodup_append:= @List.nodup_append
theorem xa:type_of% @List.pairwise_cons:= @List.pairwise_cons
theorem xb:type_of% @Go.World.cell?_alloc_past:= @Go.World.cell?_alloc_past
theorem xc:type_of% @Go.World.cell?_of_block:= @Go.World.cell?_of_block
theorem yo:type_of% @List.cons_append:= @List.cons_append
theorem yp:type_of% @List.ext_getElem:= @List.ext_getElem
theorem yq:type_of% @List.getElem?_append_right:= @List.getElem?_append_right
theorem yr:type_of% @List.getElem?_eq_none:= @List.getElem?_eq_none
theorem ys:type_of% @List.length_singleton:= @List.length_singleton
theorem yt:type_of% @List.nodup_cons:= @List.nodup_cons
theorem yu:type_of% @decide_eq_true:= @decide_eq_true
theorem yv:type_of% @getElem!_pos:= @getElem!_pos
theorem yw:type_of% @Go.wpList_append_own:= @Go.wpList_append_own
theorem zJ:type_of% @List.any_eq_true:= @List.any_eq_true
theorem zK:type_of% @List.getElem?_map:= @List.getElem?_map
theorem zL:type_of% @List.pairwise_map:= @List.pairwise_map
theorem aqY:type_of% @Nat.le_refl:= @Nat.le_refl
theorem zM:type_of% @Nat.mul_one:= @Nat.mul_one
theorem Bi:type_of% @beq_false_of_ne:= @beq_false_of_ne
theorem Bj:type_of% @Go.Addr.add_lit:= @Go.Addr.add_lit
theorem Bk:type_of% @Array.getElem_toList:= @Array.getElem_toList
theorem Bl:type_of% @List.flatMap_nil:= @List.flatMap_nil
theorem Bm:type_of% @List.getElem?_set:= @List.getElem?_set
theorem Dg:type_of% @List.getElem_append_left:= @List.getElem_append_left
theorem Bn:type_of% @List.size_toArray:= @List.size_toArray
theorem Bo:type_of% @Option.map_some:= @Option.map_some
theorem Fe:type_of% @Go.World.ownsRow.cellAt:= @Go.World.ownsRow.cellAt
theorem Bg:type_of% @beq_eq_false_iff_ne:= @beq_eq_false_iff_ne
theorem Bh:type_of% @Go.run_underlying:= @Go.run_underlying
theorem Ff:type_of% @List.length_filter_le:= @List.length_filter_le
theorem Da:type_of% @List.mem_cons_of_mem:= @List.mem_cons_of_mem
theorem Db:type_of% @List.mem_of_mem_drop:= @List.mem_of_mem_drop
theorem Fg:type_of% @List.mem_of_mem_take:= @List.mem_of_mem_take
theorem Dc:type_of% @Go.MapKept.run_getObj_map:= @Go.MapKept.run_getObj_map
theorem Dd:type_of% @Nat.le_of_lt:= @Nat.le_of_lt
theorem De:type_of% @Nat.not_lt_zero:= @Nat.not_lt_zero
theorem Df:type_of% @Go.RowKit.ownsRow_setCell_below:= @Go.RowKit.ownsRow_setCell_below
theorem Fh:type_of% @Go.ByteArray.toList_eq:= @Go.ByteArray.toList_eq
theorem Fi:type_of% @Int.emod_nonneg:= @Int.emod_nonneg
theorem Ht:type_of% @List.filter_sublist:= @List.filter_sublist
theorem Fj:type_of% @List.getElem_append_right:= @List.getElem_append_right
theorem Fk:type_of% @List.replicate_succ':= @List.replicate_succ'
theorem Fl:type_of% @Nat.add_assoc:= @Nat.add_assoc
theorem Fm:type_of% @Option.some.injEq:= @Option.some.injEq
theorem Fo:type_of% @decide_eq_false_iff_not:= @decide_eq_false_iff_not
theorem Hu:type_of% @Array.getElem?_modify:= @Array.getElem?_modify
theorem Hv:type_of% @List.length_eq_zero_iff:= @List.length_eq_zero_iff
theorem Hw:type_of% @Go.MapKept.run_setObj_map:= @Go.MapKept.run_setObj_map
theorem Hx:type_of% @Nat.min_eq_left:= @Nat.min_eq_left
theorem Hy:type_of% @Nat.mul_le_mul_right:= @Nat.mul_le_mul_right
theorem K7:type_of% @Array.ext_getElem?:= @Array.ext_getElem?
theorem K8:type_of% @Bool.false_eq_true:= @Bool.false_eq_true
end Go.Proofs.YtiplgdkpnhamaaaGreatDoor
