/- The texts U1, joined. -/
import Derived.Lib.AtoiAll
import Derived.Lib.ItoaLen
import Derived.Lib.ItoaMem
namespace Go.Proofs.YtiplgdkpnhamaaaGreatDoor
open Go.Lib
theorem parse_snoc:∀ (l:List UInt8) (acc v:Nat) (c:UInt8),parseUint10 acc l=.ok v → 48 ≤ c.toNat → c.toNat ≤ 57 → v * 10 + (c.toNat - 48) < 18446744073709551616 → parseUint10 acc (l ++ [c])=.ok (v * 10 + (c.toNat - 48))
 | [],acc,v,c,h,h0,h1,h2=>by
  simp only [parseUint10,NumEnd.ok.injEq] at h
  subst h
  simp only [List.nil_append,parseUint10]
  rw [if_pos ⟨h0,h1⟩,if_neg (by omega),if_neg (by omega)]
 | d :: l,acc,v,c,h,h0,h1,h2=>by
  simp only [List.cons_append,parseUint10] at h ⊢
  split at h
  ·rename_i a
   rw [if_pos a]
   split at h
   ·cases h
   ·rename_i b
    rw [if_neg b]
    split at h
    ·cases h
    ·rename_i e
     rw [if_neg e]
     exact parse_snoc l _ v c h h0 h1 h2
  ·cases h
theorem digit_nat {k:Nat} (h:k < 10):(UInt8.ofNat (48 + k)).toNat=48 + k:=by
 rw [UInt8.toNat_ofNat']; omega
theorem digits_ne (u:Nat):∀ c,c ∈ decDigits u → 48 ≤ c.toNat ∧ c.toNat ≤ 57:=by
 induction u using Nat.strongRecOn with
 | _ u ih=>
  intro c hc
  rw [decDigits] at hc
  split at hc
  ·rename_i h
   rw [List.mem_singleton] at hc
   rw [hc,digit_nat h]; omega
  ·rename_i h
   rcases List.mem_append.1 hc with a | a
   ·exact ih (u / 10) (by omega) c a
   ·rw [List.mem_singleton] at a
    rw [a,digit_nat (by omega)]; omega
theorem digits_some (u:Nat):decDigits u ≠ []:=by
 rw [decDigits]; split <;> simp
theorem digits_back (u:Nat):u < 18446744073709551616 → parseUint10 0 (decDigits u)=.ok u:=by
 induction u using Nat.strongRecOn with
 | _ u ih=>
  intro hu
  rw [decDigits]
  split
  ·rename_i h
   simp only [parseUint10,digit_nat h]
   rw [if_pos (by omega),if_neg (by omega),if_neg (by omega)]
   congr 1; omega
  ·rename_i h
   have:=parse_snoc (decDigits (u / 10)) 0 (u / 10) (UInt8.ofNat (48 + u % 10)) (ih (u / 10) (by omega) (by omega)) (by rw [digit_nat (by omega)]; omega) (by rw [digit_nat (by omega)]; omega) (by rw [digit_nat (by omega)]; omega)
   rw [this,digit_nat (by omega)]
   congr 1; omega
theorem itoa_ne (n:Int):∀ c,c ∈ itoa n → c ≠ 32:=by
 intro c hc e
 subst e
 unfold itoa at hc
 split at hc
 ·rcases List.mem_cons.1 hc with a | a
  ·exact absurd a (by decide)
  ·have:=digits_ne _ _ a; simp at this
 ·have:=digits_ne _ _ hc; simp at this
theorem atoi_itoa (n:Int) (h0:-9223372036854775808 ≤ n) (h1:n ≤ 9223372036854775807):atoiAll (itoa n)=.ok n:=by
 unfold itoa
 split
 ·rename_i h
  have hm:parseMag (decDigits n.natAbs)=.ok n.natAbs:=by
   unfold parseMag; rw [if_neg (digits_some _),digits_back _ (by omega)]
  simp only [atoiAll]
  have e:(45:UInt8).toNat=45:=by decide
  rw [if_pos (Or.inr e),hm]
  simp only
  rw [if_neg (fun c=>c.1 e),if_neg (by omega),if_pos e]
  congr 1; omega
 ·rename_i h
  have hm:parseMag (decDigits n.toNat)=.ok n.toNat:=by
   unfold parseMag; rw [if_neg (digits_some _),digits_back _ (by omega)]
  have hs:=digits_some n.toNat
  have hd:=digits_ne n.toNat
  generalize decDigits n.toNat=l at hm hs hd
  cases l with
  | nil=>exact absurd rfl hs
  | cons c r=>
   have hc:=hd c (by simp)
   simp only [atoiAll]
   rw [if_neg (by omega),hm]
   simp only
   rw [if_neg (by omega),if_neg (by omega),if_neg (by omega)]
   congr 1; omega
end Go.Proofs.YtiplgdkpnhamaaaGreatDoor
