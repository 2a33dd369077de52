/-
  Plain facts on turns; nothing of the program stands here.
-/
import Derived.Test.YthkkhmmcgjcedaaDataTurn
import Derived.Test.YthkkhmmcgjcedaaPlainIn
namespace Go.Proofs.Ythkkhmmcgjcedaa
open Go.RowKit

def turnOk (d : TurnD) : Bool := within d.kd 1 5 && (within d.en 0 1 && decide (0 ≤ d.pl))
theorem turnOk_iff {d : TurnD} : turnOk d = true ↔ (1 ≤ d.kd ∧ d.kd ≤ 5) ∧ (0 ≤ d.en ∧ d.en ≤ 1) ∧ 0 ≤ d.pl := by simp [turnOk, within_iff]
theorem turnOk_no {d : TurnD} (h : ¬ ((1 ≤ d.kd ∧ d.kd ≤ 5) ∧ (0 ≤ d.en ∧ d.en ≤ 1) ∧ 0 ≤ d.pl)) : turnOk d = false := by rw [← Bool.not_eq_true, turnOk_iff]; exact h
end Go.Proofs.Ythkkhmmcgjcedaa
