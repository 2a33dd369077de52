/-
  What acts leave, one by one, as one answer.
-/
import Derived.Test.YthkfgiilbkjojaaPlainActs
namespace Go.Proofs.Ythkfgiilbkjojaa
open Go.RowKit

def doAll (l : List FileD) : List ActD → List FileD × Nat
  | [] => (l, 0)
  | a :: r => match doAct l a with
    | none => (l, 0)
    | some o => ((doAll o r).1, (doAll o r).2 + 1)
theorem doTo_cons (l : List FileD) (a : ActD) (r : List ActD) : ∀ k, doTo l (a :: r) (k + 1) = (doAct l a).bind fun o => doTo o r k
  | 0 => by
    rw [doTo, doTo, Option.bind_some]
    simp [doTo]
  | k + 1 => by
    rw [doTo, doTo_cons l a r k, Option.bind_assoc]
    rfl
theorem doAll_eq {acts : List ActD} : ∀ {l o : List FileD} {i : Nat}, doTo l acts i = some o → i ≤ acts.length → (i = acts.length ∨ doTo l acts (i + 1) = none) → doAll l acts = (o, i) := by
  induction acts with
  | nil =>
    intro l o i h hi _
    obtain rfl : i = 0 := by simpa using hi
    cases h
    rfl
  | cons a r ih =>
    intro l o i h hi hor
    cases i with
    | zero =>
      cases h
      have h1 : doTo l (a :: r) 1 = none := hor.resolve_left (by simp)
      rw [doTo_cons] at h1
      cases hd : doAct l a with
      | none => simp [doAll, hd]
      | some o' => rw [hd] at h1; simp [doTo] at h1
    | succ i =>
      rw [doTo_cons] at h
      cases hd : doAct l a with
      | none => rw [hd] at h; cases h
      | some o' =>
        rw [hd, Option.bind_some] at h
        have := ih h (by simpa using hi) (by
          rcases hor with q | q
          · exact Or.inl (by simpa using q)
          · rw [doTo_cons, hd, Option.bind_some] at q; exact Or.inr q)
        simp [doAll, hd, this]
theorem doTo_small {l o : List FileD} {acts : List ActD} (hl : l.length ≤ 1048576) : ∀ {k : Nat}, doTo l acts k = some o → o.length ≤ 1048576
  | 0, h => by cases h; exact hl
  | k + 1, h => by
    rw [doTo] at h
    obtain ⟨o', _, h2⟩ := Option.bind_eq_some_iff.1 h
    split at h2
    · cases h2
    · have := (diskOk_iff.1 (doAct_right h2)).1; omega
theorem doAll_small {l : List FileD} {acts : List ActD} (hl : l.length ≤ 1048576) : (doAll l acts).1.length ≤ 1048576 := by
  induction acts generalizing l with
  | nil => exact hl
  | cons a r ih =>
    rw [doAll]
    cases hd : doAct l a with
    | none => exact hl
    | some o => have := (diskOk_iff.1 (doAct_right hd)).1; exact ih (by omega)
end Go.Proofs.Ythkfgiilbkjojaa
