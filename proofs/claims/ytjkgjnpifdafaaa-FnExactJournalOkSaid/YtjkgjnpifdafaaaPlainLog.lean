/-
  Logs as plain data: when one is right, its last term, the term of an index, what is put and what is left behind, what two share; nothing of the program stands here.
-/
import Derived.Test.YtjkgjnpifdafaaaPlainEntry
namespace Go.Proofs.Ytjkgjnpifdafaaa
open Go.RowKit

/-- the term of the last entry, or the one that it begins with -/
def lastT : Int → List EntD → Int
  | t, [] => t
  | _, e :: r => lastT e.term r
/-- entries that are right, their terms never falling -/
def termsOk : Int → List EntD → Bool
  | _, [] => true
  | t, e :: r => entryOk e && decide (t ≤ e.term) && termsOk e.term r
theorem lastT_append (t : Int) (a b : List EntD) : lastT t (a ++ b) = lastT (lastT t a) b := by
  induction a generalizing t with
  | nil => rfl
  | cons e a ih => exact ih e.term
theorem termsOk_append (t : Int) (a b : List EntD) : termsOk t (a ++ b) = (termsOk t a && termsOk (lastT t a) b) := by
  induction a generalizing t with
  | nil => simp [termsOk, lastT]
  | cons e a ih => simp only [List.cons_append, termsOk, lastT, ih, Bool.and_assoc]
theorem lastT_take (t : Int) (l : List EntD) (k : Nat) (h : k < l.length) : lastT t (l.take (k + 1)) = l[k].term := by
  rw [List.take_succ_eq_append_getElem h, lastT_append]
  rfl
theorem lastT_last (t : Int) (l : List EntD) (h : 0 < l.length) : lastT t l = l[l.length - 1].term := by
  have := lastT_take t l (l.length - 1) (by omega)
  rw [List.take_of_length_le (by omega)] at this
  exact this
theorem termsOk_take (t : Int) (l : List EntD) (k : Nat) (h : k < l.length) : termsOk t (l.take (k + 1)) = (termsOk t (l.take k) && (entryOk l[k] && decide (lastT t (l.take k) ≤ l[k].term))) := by
  rw [List.take_succ_eq_append_getElem h, termsOk_append]
  simp [termsOk]
theorem termsOk_not (t : Int) (l : List EntD) (k : Nat) (h : termsOk t (l.take k) = false) : termsOk t l = false := by
  have := termsOk_append t (l.take k) (l.drop k)
  rw [List.take_append_drop, h] at this
  simpa using this
theorem termsOk_each (t : Int) (l : List EntD) (h : termsOk t l = true) : ∀ e ∈ l, entryOk e = true := by
  induction l generalizing t with
  | nil => intro e he; cases he
  | cons a l ih =>
    intro e he
    simp only [termsOk, Bool.and_eq_true] at h
    rcases List.mem_cons.1 he with rfl | he
    · exact h.1.1
    · exact ih _ h.2 e he

/-- a log is right -/
def logOk (s t : Int) (l : List EntD) : Bool := within s 0 1000000 && within t 0 100000 && decide (l.length ≤ 60) && decide (s + l.length ≤ 1000000) && termsOk t l
theorem logOk_iff {s t : Int} {l : List EntD} : logOk s t l = true ↔ (0 ≤ s ∧ s ≤ 1000000) ∧ (0 ≤ t ∧ t ≤ 100000) ∧ l.length ≤ 60 ∧ s + l.length ≤ 1000000 ∧ termsOk t l = true := by
  simp only [logOk, Bool.and_eq_true, within_iff, decide_eq_true_eq, and_assoc]
theorem logOk_start {s t : Int} {l : List EntD} (h : ¬ (0 ≤ s ∧ s ≤ 1000000)) : logOk s t l = false := by
  cases hq : logOk s t l with
  | false => rfl
  | true => exact absurd (logOk_iff.1 hq).1 h
theorem logOk_term {s t : Int} {l : List EntD} (h : ¬ (0 ≤ t ∧ t ≤ 100000)) : logOk s t l = false := by
  cases hq : logOk s t l with
  | false => rfl
  | true => exact absurd (logOk_iff.1 hq).2.1 h
theorem logOk_len {s t : Int} {l : List EntD} (h : ¬ l.length ≤ 60) : logOk s t l = false := by
  cases hq : logOk s t l with
  | false => rfl
  | true => exact absurd (logOk_iff.1 hq).2.2.1 h
theorem logOk_sum {s t : Int} {l : List EntD} (h : ¬ s + l.length ≤ 1000000) : logOk s t l = false := by
  cases hq : logOk s t l with
  | false => rfl
  | true => exact absurd (logOk_iff.1 hq).2.2.2.1 h
theorem logOk_ents {s t : Int} {l : List EntD} (h : termsOk t l = false) : logOk s t l = false := by
  rw [logOk, h, Bool.and_false]
theorem logOk_of {s t : Int} {l : List EntD} (hs : 0 ≤ s ∧ s ≤ 1000000) (ht : 0 ≤ t ∧ t ≤ 100000) (hl : l.length ≤ 60) (h2 : s + l.length ≤ 1000000) (h : termsOk t l = true) : logOk s t l = true := logOk_iff.2 ⟨hs, ht, hl, h2, h⟩

/-- the term of an index -/
def logTerm (s t : Int) (l : List EntD) (i : Int) : Int := if i = s then t else if s < i ∧ i ≤ s + l.length then (l.getD (i - s - 1).toNat ⟨0, 0, ByteArray.empty⟩).term else -1
/-- the log has the index -/
def logHas (s : Int) (n : Nat) (i : Int) : Bool := decide (s ≤ i ∧ i ≤ s + n)
/-- the log in which an entry has an index -/
def putAns (s t : Int) (l : List EntD) (i : Int) (e : EntD) : (Int × Int × List EntD) × Bool :=
  if logOk s t l = true ∧ (s + 1 ≤ i ∧ i ≤ s + l.length + 1) ∧ logOk s t (l.take (i - s - 1).toNat ++ [e]) = true then ((s, t, l.take (i - s - 1).toNat ++ [e]), true) else ((0, 0, []), false)
/-- the log that begins behind an index -/
def behindAns (s t : Int) (l : List EntD) (b tm : Int) : List EntD :=
  if logOk s t l = true ∧ (s ≤ b ∧ b ≤ s + l.length) ∧ logTerm s t l b = tm then l.drop (b - s).toNat else []
/-- how many entries two lists begin with alike -/
def alike : List EntD → List EntD → Nat
  | a :: l, b :: r => if a.term = b.term ∧ a.kind = b.kind ∧ a.data = b.data then alike l r + 1 else 0
  | _, _ => 0
/-- what two logs share -/
def sharedAns (s t : Int) (l : List EntD) (s' t' : Int) (l' : List EntD) : Int :=
  if logOk s t l = true ∧ logOk s' t' l' = true then
    if logHas s l.length (max s s') = true ∧ logHas s' l'.length (max s s') = true ∧ logTerm s t l (max s s') = logTerm s' t' l' (max s s') then max s s' + alike (l.drop (max s s' - s).toNat) (l'.drop (max s s' - s').toNat) else -1
  else -1
end Go.Proofs.Ytjkgjnpifdafaaa
