/-
  Plain facts on confs: when one is right, and their texts; nothing of the program stands here.
-/
import Derived.Test.YtjkgjnpifdafaaaPlainIn
import Derived.Test.YtjkgjnpifdafaaaPlain
namespace Go.Proofs.Ytjkgjnpifdafaaa
open Go.RowKit

/-- a number stands behind the one ahead of it -/
def behindI (zs : List Int) (k : Nat) (x : Int) : Bool := match k with
  | 0 => true
  | j + 1 => match zs[j]? with
    | none => true
    | some y => decide (y < x)
/-- the first k numbers are in their bounds, and ascend -/
def riseTo (zs : List Int) : Nat → Bool
  | 0 => true
  | k + 1 => riseTo zs k && match zs[k]? with
    | none => true
    | some x => within x 1 4 && behindI zs k x
def confOk (zs : List Int) : Bool := within zs.length 1 4 && riseTo zs zs.length

theorem riseTo_step {zs : List Int} {k : Nat} (hk : k < zs.length) : riseTo zs (k + 1) = (riseTo zs k && (within zs[k] 1 4 && behindI zs k zs[k])) := by
  rw [riseTo, List.getElem?_eq_getElem hk]
theorem behindI_step {zs : List Int} {j : Nat} (hj : j + 1 < zs.length) : behindI zs (j + 1) zs[j + 1] = decide (zs[j] < zs[j + 1]) := by
  rw [behindI, List.getElem?_eq_getElem (show j < zs.length by omega)]
theorem riseTo_down {zs : List Int} {n k : Nat} (h : riseTo zs n = true) (hk : k ≤ n) : riseTo zs k = true := by
  induction n with
  | zero => obtain rfl : k = 0 := by omega
            rfl
  | succ n ih =>
    rcases Nat.lt_or_ge k (n + 1) with q | q
    · rw [riseTo, Bool.and_eq_true] at h
      exact ih h.1 (by omega)
    · obtain rfl : k = n + 1 := by omega
      exact h
theorem not_rise {zs : List Int} {k : Nat} (hk : k < zs.length) (h : (within zs[k] 1 4 && behindI zs k zs[k]) = false) : riseTo zs zs.length = false := by
  cases hd : riseTo zs zs.length with
  | false => rfl
  | true =>
    have := riseTo_down hd (show k + 1 ≤ zs.length by omega)
    rw [riseTo_step hk, h] at this
    simp at this
theorem rise_at {zs : List Int} (h : riseTo zs zs.length = true) {k : Nat} (hk : k < zs.length) : 1 ≤ zs[k] ∧ zs[k] ≤ 4 := by
  have := riseTo_down h (show k + 1 ≤ zs.length by omega)
  rw [riseTo_step hk, Bool.and_eq_true, Bool.and_eq_true] at this
  exact within_iff.1 this.2.1
theorem confOk_len {zs : List Int} (h : confOk zs = true) : 1 ≤ zs.length ∧ zs.length ≤ 4 := by
  rw [confOk, Bool.and_eq_true] at h
  have := within_iff.1 h.1
  omega
theorem confOk_big {zs : List Int} (h : zs.length < 1 ∨ 4 < zs.length) : confOk zs = false := by
  rw [confOk, within_no (by omega)]
  rfl
theorem confOk_of {zs : List Int} (h : 1 ≤ zs.length) (h4 : zs.length ≤ 4) : confOk zs = riseTo zs zs.length := by
  rw [confOk, within_yes (by omega) (by omega), Bool.true_and]
theorem confOk_at {zs : List Int} (h : confOk zs = true) {k : Nat} (hk : k < zs.length) : 1 ≤ zs[k] ∧ zs[k] ≤ 4 := by
  have hl := confOk_len h
  rw [confOk_of hl.1 hl.2] at h
  exact rise_at h hk

/-- the bytes of a conf, and the numbers of bytes -/
def confBytes (zs : List Int) : List UInt8 := zs.map fun x => UInt8.ofNat x.toNat
def intsOf (l : List UInt8) : List Int := l.map fun b => (b.toNat : Int)
theorem confBytes_length (zs : List Int) : (confBytes zs).length = zs.length := by simp [confBytes]
theorem intsOf_length (l : List UInt8) : (intsOf l).length = l.length := by simp [intsOf]
theorem confBytes_take (zs : List Int) (k : Nat) (hk : k < zs.length) : confBytes (zs.take (k + 1)) = confBytes (zs.take k) ++ [UInt8.ofNat zs[k].toNat] := by
  simp only [confBytes]
  rw [List.take_succ_eq_append_getElem hk, List.map_append]
  rfl
theorem intsOf_take (l : List UInt8) (k : Nat) (hk : k < l.length) : intsOf (l.take (k + 1)) = intsOf (l.take k) ++ [(l[k].toNat : Int)] := by
  simp only [intsOf]
  rw [List.take_succ_eq_append_getElem hk, List.map_append]
  rfl
/-- what is read of a text -/
def readConf (s : ByteArray) : List Int × Bool := if confOk (intsOf s.data.toList) = true then (intsOf s.data.toList, true) else ([], false)
def confText (zs : List Int) : ByteArray × Bool := if confOk zs = true then (⟨(confBytes zs).toArray⟩, true) else (ByteArray.empty, false)
end Go.Proofs.Ytjkgjnpifdafaaa
