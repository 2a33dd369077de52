/-
  Messages as plain data: when one is right; nothing of the program stands here.
-/
import Derived.Test.YtkdbdgeaceigfaaPlainLog
import Derived.Test.YtkdbdgeaceigfaaPlainConf
namespace Go.Proofs.Ytkdbdgeaceigfaa
open Go.RowKit

/-- a message -/
structure MsgD where
  kind : Int
  src : Int
  dst : Int
  term : Int
  index : Int
  logTerm : Int
  commit : Int
  ok : Bool
  ents : List EntD
  conf : List Int
  data : ByteArray
  last : Bool
/-- no message -/
def noMsg : MsgD := ⟨0, 0, 0, 0, 0, 0, 0, false, [], [], ByteArray.empty, false⟩

/-- its numbers are in their bounds -/
def headOk (m : MsgD) : Bool := within m.src 1 4 && within m.dst 1 4 && !decide (m.src = m.dst) && (within m.index 0 1000000 && within m.logTerm 0 100000) && (within m.commit 0 1000000 && within m.term 0 100000)
/-- nothing beside the head -/
def bareOk (m : MsgD) : Bool := decide (m.ents.length = 0) && decide (m.conf.length = 0) && decide (m.data.size = 0) && !m.last
/-- entries that may be sent -/
def sentOk (t top : Int) : List EntD → Bool
  | [] => true
  | e :: r => entryOk e && decide (t ≤ e.term) && decide (e.term ≤ top) && sentOk e.term top r
/-- what one of its kind carries -/
def cargoOk (m : MsgD) : Bool :=
  if m.kind = 3 then decide (m.ents.length ≤ 4) && sentOk m.logTerm m.term m.ents && decide (m.conf.length = 0) && decide (m.data.size = 0) && !m.last
  else if m.kind = 5 then decide (m.ents.length = 0) && confOk m.conf && decide (m.data.size ≤ 60)
  else bareOk m
def messageOk (m : MsgD) : Bool := within m.kind 1 6 && headOk m && cargoOk m

theorem sentOk_append (t top : Int) (a b : List EntD) : sentOk t top (a ++ b) = (sentOk t top a && sentOk (lastT t a) top b) := by
  induction a generalizing t with
  | nil => simp [sentOk, lastT]
  | cons e a ih => simp only [List.cons_append, sentOk, lastT, ih, Bool.and_assoc]
theorem sentOk_take (t top : Int) (l : List EntD) (k : Nat) (h : k < l.length) : sentOk t top (l.take (k + 1)) = (sentOk t top (l.take k) && (entryOk l[k] && decide (lastT t (l.take k) ≤ l[k].term) && decide (l[k].term ≤ top))) := by
  rw [List.take_succ_eq_append_getElem h, sentOk_append]
  simp [sentOk]
theorem sentOk_not (t top : Int) (l : List EntD) (k : Nat) (h : sentOk t top (l.take k) = false) : sentOk t top l = false := by
  have := sentOk_append t top (l.take k) (l.drop k)
  rw [List.take_append_drop, h] at this
  simpa using this
/-- their terms never fall: the last one is the greatest -/
theorem termsOk_le (t : Int) (l : List EntD) (h : termsOk t l = true) : t ≤ lastT t l := by
  induction l generalizing t with
  | nil => exact Int.le_refl _
  | cons e l ih =>
    simp only [termsOk, Bool.and_eq_true, decide_eq_true_eq] at h
    exact Int.le_trans h.1.2 (ih _ h.2)
theorem sentOk_is (t top : Int) (l : List EntD) : sentOk t top l = (termsOk t l && (decide (l.length = 0) || decide (lastT t l ≤ top))) := by
  induction l generalizing t with
  | nil => simp [sentOk, termsOk]
  | cons e l ih =>
    have e0 : decide ((e :: l).length = 0) = false := by simp
    rw [sentOk, termsOk, ih, e0, Bool.false_or]
    show _ = (entryOk e && decide (t ≤ e.term) && termsOk e.term l && decide (lastT e.term l ≤ top))
    cases entryOk e <;> cases decide (t ≤ e.term) <;> simp only [Bool.true_and, Bool.false_and]
    cases hl : termsOk e.term l with
    | false => simp
    | true =>
      simp only [Bool.true_and]
      have h1 := termsOk_le _ _ hl
      cases l with
      | nil =>
        have e2 : decide (([] : List EntD).length = 0) = true := rfl
        rw [e2, Bool.true_or, Bool.and_true]
        rfl
      | cons a r =>
        simp only [List.length_cons, Nat.add_one_ne_zero, decide_false, Bool.false_or]
        by_cases h2 : lastT e.term (a :: r) ≤ top
        · simp [h2, Int.le_trans h1 h2]
        · simp [h2]
theorem headOk_iff {m : MsgD} : headOk m = true ↔ (1 ≤ m.src ∧ m.src ≤ 4) ∧ (1 ≤ m.dst ∧ m.dst ≤ 4) ∧ ¬ m.src = m.dst ∧ ((0 ≤ m.index ∧ m.index ≤ 1000000) ∧ 0 ≤ m.logTerm ∧ m.logTerm ≤ 100000) ∧ (0 ≤ m.commit ∧ m.commit ≤ 1000000) ∧ 0 ≤ m.term ∧ m.term ≤ 100000 := by
  simp only [headOk, Bool.and_eq_true, within_iff, Bool.not_eq_true', decide_eq_false_iff_not, and_assoc]
theorem messageOk_kind {m : MsgD} (h : ¬ (1 ≤ m.kind ∧ m.kind ≤ 6)) : messageOk m = false := by
  have : within m.kind 1 6 = false := by
    cases e : within m.kind 1 6 with
    | false => rfl
    | true => exact absurd (within_iff.1 e) h
  simp [messageOk, this]
theorem messageOk_head {m : MsgD} (h : headOk m = false) : messageOk m = false := by simp [messageOk, h]
theorem messageOk_cargo {m : MsgD} (h : cargoOk m = false) : messageOk m = false := by simp [messageOk, h]
theorem messageOk_of {m : MsgD} (h1 : 1 ≤ m.kind ∧ m.kind ≤ 6) (h2 : headOk m = true) : messageOk m = cargoOk m := by
  simp [messageOk, within_iff.2 h1, h2]
theorem messageOk_iff {m : MsgD} : messageOk m = true ↔ (1 ≤ m.kind ∧ m.kind ≤ 6) ∧ headOk m = true ∧ cargoOk m = true := by
  simp only [messageOk, Bool.and_eq_true, within_iff, and_assoc]
theorem messageOk_bare {m : MsgD} (h : m.kind = 1 ∨ m.kind = 2 ∨ m.kind = 4 ∨ m.kind = 6) : (headOk m && bareOk m && true) = messageOk m := by
  have e1 : within m.kind 1 6 = true := within_iff.2 (by omega)
  have n3 : ¬ m.kind = 3 := by omega
  have n5 : ¬ m.kind = 5 := by omega
  simp [messageOk, cargoOk, e1, n3, n5]
theorem messageOk_ask {m : MsgD} (h : m.kind = 3) : (headOk { m with ents := [] } && bareOk { m with ents := [] } && (decide (m.ents.length ≤ 4) && sentOk m.logTerm m.term m.ents)) = messageOk m := by
  have e1 : within m.kind 1 6 = true := within_iff.2 (by omega)
  have e2 : headOk { m with ents := [] } = headOk m := rfl
  have e3 : bareOk { m with ents := [] } = (decide (m.conf.length = 0) && decide (m.data.size = 0) && !m.last) := by simp [bareOk]
  have e4 : cargoOk m = (decide (m.ents.length ≤ 4) && sentOk m.logTerm m.term m.ents && decide (m.conf.length = 0) && decide (m.data.size = 0) && !m.last) := if_pos h
  rw [messageOk, e1, e2, e3, e4]
  generalize headOk m = a
  generalize decide (m.ents.length ≤ 4) = b
  generalize sentOk m.logTerm m.term m.ents = c
  generalize decide (m.conf.length = 0) = e
  generalize decide (m.data.size = 0) = f
  generalize m.last = g
  revert a b c e f g
  decide
theorem messageOk_chunk {m : MsgD} (h : m.kind = 5) : (headOk { m with conf := [], data := ⟨#[]⟩, last := false } && bareOk { m with conf := [], data := ⟨#[]⟩, last := false } && (confOk m.conf && decide (m.data.size ≤ 60))) = messageOk m := by
  have e1 : within m.kind 1 6 = true := within_iff.2 (by omega)
  have e2 : headOk { m with conf := [], data := ⟨#[]⟩, last := false } = headOk m := rfl
  have e3 : bareOk { m with conf := [], data := ⟨#[]⟩, last := false } = decide (m.ents.length = 0) := by
    show (decide (m.ents.length = 0) && true && true && !false) = _
    simp
  have e4 : cargoOk m = (decide (m.ents.length = 0) && confOk m.conf && decide (m.data.size ≤ 60)) := by
    unfold cargoOk
    rw [if_neg (by omega), if_pos h]
  rw [messageOk, e1, e2, e3, e4]
  generalize headOk m = a
  generalize decide (m.ents.length = 0) = b
  generalize confOk m.conf = c
  generalize decide (m.data.size ≤ 60) = e
  revert a b c e
  decide
end Go.Proofs.Ytkdbdgeaceigfaa
