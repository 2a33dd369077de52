/-
  Plain facts on four steps of a check sum at once, by a table of sixteen.
-/
import Derived.Test.YtneociicjidcnaaDoorPlainCrc
namespace Go.Proofs.YtneociicjidcnaaDoor
open Go.RowKit

theorem half_xor (a b : Nat) : half (a ^^^ b) = half a ^^^ half b := by
  have hm : (a ^^^ b) % 2 = (a % 2 + b % 2) % 2 := by
    have h := Nat.testBit_xor a b 0
    simp only [Nat.testBit_zero] at h
    have e1 : a % 2 = 0 ∨ a % 2 = 1 := by omega
    have e2 : b % 2 = 0 ∨ b % 2 = 1 := by omega
    have e3 : (a ^^^ b) % 2 = 0 ∨ (a ^^^ b) % 2 = 1 := by omega
    rcases e1 with e1 | e1 <;> rcases e2 with e2 | e2 <;> rcases e3 with e3 | e3 <;> rw [e1, e2, e3] at h <;> simp at h <;> omega
  have hd : (a ^^^ b) / 2 = a / 2 ^^^ b / 2 := by
    apply Nat.eq_of_testBit_eq
    intro i
    simp only [Nat.testBit_xor, Nat.testBit_div_two]
  unfold half
  rw [hm, hd]
  have e1 : a % 2 = 0 ∨ a % 2 = 1 := by omega
  have e2 : b % 2 = 0 ∨ b % 2 = 1 := by omega
  rcases e1 with e1 | e1 <;> rcases e2 with e2 | e2 <;> simp only [e1, e2]
  · rfl
  · simp [Nat.xor_assoc]
  · have : a / 2 ^^^ b / 2 ^^^ 3558460437 = a / 2 ^^^ 3558460437 ^^^ b / 2 := by rw [Nat.xor_assoc, Nat.xor_assoc, Nat.xor_comm (b / 2)]
    simpa using this
  · have : a / 2 ^^^ 3558460437 ^^^ (b / 2 ^^^ 3558460437) = a / 2 ^^^ b / 2 := by
      rw [Nat.xor_comm (b / 2), ← Nat.xor_assoc, Nat.xor_assoc (a / 2), Nat.xor_self, Nat.xor_zero]
    simp [this]

theorem hsN_xor (k a b : Nat) : hsN k (a ^^^ b) = hsN k a ^^^ hsN k b := by
  induction k with
  | zero => rfl
  | succ k ih =>
    show half (hsN k (a ^^^ b)) = _
    rw [ih, half_xor]
    rfl

theorem half_even (y : Nat) : half (2 * y) = y := by
  unfold half
  rw [if_neg (by omega)]
  omega

theorem low_high (x : Nat) : x = (16 * (x / 16)) ^^^ (x % 16) := by
  apply Nat.eq_of_testBit_eq
  intro i
  rw [Nat.testBit_xor, show 16 * (x / 16) = 2 ^ 4 * (x / 2 ^ 4) from rfl, show x % 16 = x % 2 ^ 4 from rfl, Nat.testBit_two_pow_mul, Nat.testBit_mod_two_pow, Nat.testBit_div_two_pow]
  by_cases h : 4 ≤ i
  · have : ¬ i < 4 := by omega
    simp [h, this]
  · have : i < 4 := by omega
    simp [h, this]

theorem hsN_add (k j x : Nat) : hsN (k + j) x = hsN j (hsN k x) := by
  induction j with
  | zero => rfl
  | succ j ih => show half (hsN (k + j) x) = half (hsN j (hsN k x)); rw [ih]

theorem four_high (q : Nat) : hsN 4 (16 * q) = q := by
  show half (half (half (half (16 * q)))) = q
  rw [show 16 * q = 2 * (2 * (2 * (2 * q))) by omega, half_even, half_even, half_even, half_even]

theorem four_steps (x : Nat) : hsN 4 x = x / 16 ^^^ hsN 4 (x % 16) := by
  have h := congrArg (hsN 4) (low_high x)
  rw [hsN_xor, four_high] at h
  exact h

def stepsTab : List Int := [0, 1166650509, 2333301018, 3466261911, 3189058079, 4221339282, 889615109, 1888477064, 3558460437, 2442158232, 1594529039, 444807554, 1779230218, 797264519, 3776954128, 2761298845]
theorem stepsTab_at : ∀ r : Nat, r < 16 → stepsTab.getD r 0 = ((hsN 4 r : Nat) : Int) := by decide +kernel
end Go.Proofs.YtneociicjidcnaaDoor
