/-
  Plain facts on check sums of 32 bits; nothing of the program stands here.
-/
import Derived.Test.YtgnoojbbicbklaaPlain
namespace Go.Proofs.Ytgnoojbbicbklaa
open Go.RowKit

/-- one of the eight steps -/
def half (x : Nat) : Nat := if x % 2 = 1 then x / 2 ^^^ 3558460437 else x / 2

theorem half_lt {x : Nat} (h : x < 4294967296) : half x < 4294967296 := by
  unfold half
  split
  · exact Nat.xor_lt_two_pow (n := 32) (by omega) (by omega)
  · omega

theorem top_bit {a : Nat} (h : a < 2147483648) : 2147483648 ≤ a ^^^ 3558460437 := by
  have h1 : (a ^^^ 3558460437).testBit 31 = true := by
    rw [Nat.testBit_xor, Nat.testBit_lt_two_pow (x := a) (i := 31) (by omega)]
    decide
  exact Nat.ge_two_pow_of_testBit h1

theorem xor_cancel {a b c : Nat} (h : a ^^^ c = b ^^^ c) : a = b := by
  have := congrArg (· ^^^ c) h
  simpa [Nat.xor_assoc] using this

theorem half_inj {x y : Nat} (hx : x < 4294967296) (hy : y < 4294967296) (h : half x = half y) : x = y := by
  unfold half at h
  have tx := top_bit (a := x / 2) (by omega)
  have ty := top_bit (a := y / 2) (by omega)
  split at h <;> split at h
  · have := xor_cancel h; omega
  · omega
  · omega
  · omega

/-- k steps -/
def hsN : Nat → Nat → Nat
  | 0, x => x
  | k + 1, x => half (hsN k x)

theorem hsN_lt (k : Nat) {x : Nat} (h : x < 4294967296) : hsN k x < 4294967296 := by
  induction k with
  | zero => exact h
  | succ k ih => exact half_lt ih
theorem hsN_inj (k : Nat) {x y : Nat} (hx : x < 4294967296) (hy : y < 4294967296) (h : hsN k x = hsN k y) : x = y := by
  induction k with
  | zero => exact h
  | succ k ih => exact ih (half_inj (hsN_lt k hx) (hsN_lt k hy) h)

/-- a sum and one byte more -/
def crc1 (s : Nat) (b : UInt8) : Nat := hsN 8 (s ^^^ b.toNat)

theorem xb_lt {s : Nat} (h : s < 4294967296) (b : UInt8) : s ^^^ b.toNat < 4294967296 := Nat.xor_lt_two_pow (n := 32) (by omega) (by have := b.toNat_lt; omega)
theorem crc1_lt {s : Nat} (h : s < 4294967296) (b : UInt8) : crc1 s b < 4294967296 := hsN_lt 8 (xb_lt h b)
theorem crc1_inj {s t : Nat} (hs : s < 4294967296) (ht : t < 4294967296) {b : UInt8} (h : crc1 s b = crc1 t b) : s = t :=
  xor_cancel (hsN_inj 8 (xb_lt hs b) (xb_lt ht b) h)
theorem crc1_byte {s : Nat} (hs : s < 4294967296) {b c : UInt8} (h : crc1 s b = crc1 s c) : b = c := by
  have h1 := hsN_inj 8 (xb_lt hs b) (xb_lt hs c) h
  rw [Nat.xor_comm s, Nat.xor_comm s] at h1
  exact UInt8.toNat_inj.1 (xor_cancel h1)

/-- a sum and more bytes -/
def crc (s : Nat) (l : List UInt8) : Nat := l.foldl crc1 s

theorem crc_append (s : Nat) (l r : List UInt8) : crc s (l ++ r) = crc (crc s l) r := by simp [crc]
theorem crc_snoc (s : Nat) (l : List UInt8) (b : UInt8) : crc s (l ++ [b]) = crc1 (crc s l) b := by simp [crc]
theorem crc_lt {s : Nat} (h : s < 4294967296) (l : List UInt8) : crc s l < 4294967296 := by
  induction l generalizing s with
  | nil => exact h
  | cons b l ih => exact ih (crc1_lt h b)
theorem crc_inj {s t : Nat} (hs : s < 4294967296) (ht : t < 4294967296) (l : List UInt8) (h : crc s l = crc t l) : s = t := by
  induction l generalizing s t with
  | nil => exact h
  | cons b l ih => exact crc1_inj hs ht (ih (crc1_lt hs b) (crc1_lt ht b) h)
/-- one byte turned turns the sum -/
theorem crc_turned {s : Nat} (hs : s < 4294967296) (p q : List UInt8) {b c : UInt8} (h : crc s (p ++ b :: q) = crc s (p ++ c :: q)) : b = c := by
  rw [crc_append, crc_append] at h
  have hp := crc_lt hs p
  have h1 : crc (crc1 (crc s p) b) q = crc (crc1 (crc s p) c) q := h
  exact crc1_byte hp (crc_inj (crc1_lt hp b) (crc1_lt hp c) q h1)

/-- a sum in four bytes, the highest first -/
def four (x : Nat) : List UInt8 := [UInt8.ofNat (x / 16777216), UInt8.ofNat (x / 65536), UInt8.ofNat (x / 256), UInt8.ofNat x]
theorem four_length (x : Nat) : (four x).length = 4 := rfl
theorem four_inj {x y : Nat} (hx : x < 4294967296) (hy : y < 4294967296) (h : four x = four y) : x = y := by
  simp only [four, List.cons.injEq, and_true] at h
  obtain ⟨h1, h2, h3, h4⟩ := h
  have e1 := congrArg UInt8.toNat h1
  have e2 := congrArg UInt8.toNat h2
  have e3 := congrArg UInt8.toNat h3
  have e4 := congrArg UInt8.toNat h4
  simp only [UInt8.toNat_ofNat'] at e1 e2 e3 e4
  omega

def sumOf (l : List UInt8) : Nat := crc 4294967295 l
theorem sumOf_lt (l : List UInt8) : sumOf l < 4294967296 := crc_lt (by omega) l

/-- a sealed text with one byte turned is the sealed text of none of its length -/
theorem seal_turned (l m : List UInt8) (p q : List UInt8) (b c : UInt8) (h1 : l ++ four (sumOf l) = p ++ b :: q) (h2 : m ++ four (sumOf m) = p ++ c :: q) : b = c := by
  have hlen : l.length = m.length := by
    have e1 := congrArg List.length h1
    have e2 := congrArg List.length h2
    simp only [List.length_append, List.length_cons, four_length] at e1 e2
    omega
  have tl : l = (p ++ b :: q).take l.length := by rw [← h1, List.take_left]
  have tm : m = (p ++ c :: q).take l.length := by rw [← h2, hlen, List.take_left]
  have dl : four (sumOf l) = (p ++ b :: q).drop l.length := by rw [← h1, List.drop_left]
  have dm : four (sumOf m) = (p ++ c :: q).drop l.length := by rw [← h2, hlen, List.drop_left]
  rw [List.take_append] at tl tm
  rw [List.drop_append] at dl dm
  rcases Nat.lt_or_ge p.length l.length with hp | hp
  · -- the byte lies in the text: the sums' bytes are alike
    obtain ⟨k, hk⟩ : ∃ k, l.length - p.length = k + 1 := ⟨l.length - p.length - 1, by omega⟩
    rw [hk, List.take_of_length_le (by omega), List.take_succ_cons] at tl tm
    rw [hk, List.drop_of_length_le (by omega), List.drop_succ_cons] at dl dm
    have hs := four_inj (sumOf_lt l) (sumOf_lt m) (dl.trans dm.symm)
    rw [tl, tm] at hs
    exact crc_turned (by omega) p (q.take k) hs
  · -- the byte lies in the sum: the texts are alike
    have hk : l.length - p.length = 0 := by omega
    rw [hk, List.take_zero, List.append_nil] at tl tm
    have e : l = m := tl.trans tm.symm
    have h3 : p ++ b :: q = p ++ c :: q := by rw [← h1, ← h2, e]
    have h4 := List.append_cancel_left h3
    simp only [List.cons.injEq] at h4
    exact h4.1

/-- a text that is sealed -/
def Uns (s : ByteArray) : Prop := 4 ≤ s.size ∧ s.size ≤ 20004 ∧ s.data.toList.drop (s.size - 4) = four (sumOf (s.data.toList.take (s.size - 4)))

theorem slice_from {P : Program} {t : TypeId} (h : P.underlying t = some .string) (s : ByteArray) (a : Nat) (x : Int) (hx : x = a) (ha : a ≤ s.size) (w : World) :
    (Instr.slice t (.string s) (some (.int .i64 x)) none none).run P w = .ok (.string (s.extract a s.size)) w := by
  subst hx
  rw [run_slice_string_l w t s h .i64 a (by omega) (by omega)]
  simp
theorem slice_upto {P : Program} {t : TypeId} (h : P.underlying t = some .string) (s : ByteArray) (a : Nat) (x : Int) (hx : x = a) (ha : a ≤ s.size) (w : World) :
    (Instr.slice t (.string s) none (some (.int .i64 x)) none).run P w = .ok (.string (s.extract 0 a)) w := by
  subst hx
  rw [run_slice_string_h w t s h .i64 a (by omega) (by omega)]
  simp

theorem head_list (s : ByteArray) (a : Nat) : (s.extract 0 a).data.toList = s.data.toList.take a := by rw [extract_eq]; simp
theorem tail_list (s : ByteArray) (a : Nat) : (s.extract a s.size).data.toList = s.data.toList.drop a := by
  rw [extract_eq, List.take_of_length_le (by simp)]

theorem uns_same {s : ByteArray} (h4 : 4 ≤ s.size) (h2 : s.size ≤ 20004) : (s.extract (s.size - 4) s.size).toList = four (sumOf (s.extract 0 (s.size - 4)).data.toList) ↔ Uns s := by
  rw [ByteArray.toList_eq, tail_list s _, head_list]
  exact ⟨fun h => ⟨h4, h2, h⟩, fun h => h.2.2⟩
end Go.Proofs.Ytgnoojbbicbklaa
