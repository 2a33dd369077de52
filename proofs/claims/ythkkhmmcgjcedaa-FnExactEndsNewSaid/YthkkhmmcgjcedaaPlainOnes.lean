/-
  Plain facts on sums of sixteen bits, whose carry comes in at the low end; nothing of the program stands here.
-/
import Derived.WalkKit
namespace Go.Proofs.Ythkkhmmcgjcedaa
open Go.RowKit

/-- one more number; what goes beyond comes in at the low end -/
def ones1 (s n : Nat) : Nat := if 65535 < s + n then s + n - 65535 else s + n
def onesF : Nat → List UInt8 → Nat
  | s, [] => s
  | s, [a] => ones1 s (256 * a.toNat)
  | s, a :: b :: r => onesF (ones1 s (256 * a.toNat + b.toNat)) r
def sumOnes (l : List UInt8) : Nat := 65535 - onesF 0 l
theorem ones1_le {s n : Nat} (hs : s ≤ 65535) (hn : n ≤ 65535) : ones1 s n ≤ 65535 := by
  unfold ones1
  split <;> omega
theorem pair_le (a b : UInt8) : 256 * a.toNat + b.toNat ≤ 65535 := by
  have := a.toNat_lt
  have := b.toNat_lt
  omega
theorem onesF_le : ∀ (l : List UInt8) (s : Nat), s ≤ 65535 → onesF s l ≤ 65535
  | [], _, h => h
  | [a], s, h => ones1_le h (by have := a.toNat_lt; omega)
  | a :: b :: r, s, h => onesF_le r _ (ones1_le h (pair_le a b))
theorem sumOnes_le (l : List UInt8) : sumOnes l ≤ 65535 := by unfold sumOnes; omega
/-- the sum goes on by pairs -/
theorem onesF_pair (l : List UInt8) (k s : Nat) (h : k + 1 < l.length) : onesF s (l.drop k) = onesF (ones1 s (256 * (l[k]'(by omega)).toNat + l[k + 1].toNat)) (l.drop (k + 2)) := by
  rw [List.drop_eq_getElem_cons (show k < l.length by omega), List.drop_eq_getElem_cons h]
  rfl
theorem onesF_last (l : List UInt8) (k s : Nat) (h : k + 1 = l.length) : onesF s (l.drop k) = ones1 s (256 * (l[k]'(by omega)).toNat) := by
  rw [List.drop_eq_getElem_cons (show k < l.length by omega), List.drop_eq_nil_of_le (by omega)]
  rfl
theorem onesF_append_even : ∀ (l r : List UInt8) (s : Nat), l.length % 2 = 0 → onesF s (l ++ r) = onesF (onesF s l) r
  | [], r, s, _ => rfl
  | [a], r, s, h => by simp at h
  | a :: b :: l, r, s, h => by
    show onesF _ (l ++ r) = _
    exact onesF_append_even l r _ (by simp at h; omega)
/-- a sum with the sum itself put to it is nothing -/
theorem sumOnes_with {l : List UInt8} (h : l.length % 2 = 0) : sumOnes (l ++ [UInt8.ofNat (sumOnes l / 256), UInt8.ofNat (sumOnes l % 256)]) = 0 := by
  have hle := onesF_le l 0 (by omega)
  unfold sumOnes
  rw [onesF_append_even l _ 0 h]
  obtain ⟨S, hS⟩ : ∃ S, onesF 0 l = S := ⟨_, rfl⟩
  rw [hS] at hle ⊢
  have e : onesF S [UInt8.ofNat ((65535 - S) / 256), UInt8.ofNat ((65535 - S) % 256)] = ones1 S (65535 - S) := by
    show ones1 S (256 * (UInt8.ofNat ((65535 - S) / 256)).toNat + (UInt8.ofNat ((65535 - S) % 256)).toNat) = _
    rw [UInt8.toNat_ofNat', UInt8.toNat_ofNat']
    congr 1
    omega
  rw [e]
  unfold ones1
  split <;> omega
end Go.Proofs.Ythkkhmmcgjcedaa
