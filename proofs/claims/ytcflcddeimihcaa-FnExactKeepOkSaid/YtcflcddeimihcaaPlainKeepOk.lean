/-
  A keep that is right; nothing of the program stands here.
-/
import Derived.Test.YtcflcddeimihcaaPlainIn
import Derived.Test.YtcflcddeimihcaaDataSession
import Derived.Test.YtcflcddeimihcaaDataItem
namespace Go.Proofs.Ytcflcddeimihcaa
open Go.RowKit

/-- one of a row is fine by itself, and behind the one ahead of it -/
def stepOk {α : Type} (fine : α → Bool) (lt : α → α → Bool) (l : List α) : Nat → Bool
  | 0 => match l[0]? with
    | some x => fine x
    | none => true
  | j + 1 => match l[j + 1]?, l[j]? with
    | some x, some y => fine x && lt y x
    | _, _ => true
def rowOk {α : Type} (fine : α → Bool) (lt : α → α → Bool) (l : List α) : Bool := (List.range l.length).all (stepOk fine lt l)
theorem stepOk_zero {α : Type} {fine : α → Bool} {lt : α → α → Bool} {l : List α} (h : 0 < l.length) : stepOk fine lt l 0 = fine l[0] := by
  simp [stepOk, h]
theorem stepOk_succ {α : Type} {fine : α → Bool} {lt : α → α → Bool} {l : List α} {j : Nat} (h : j + 1 < l.length) : stepOk fine lt l (j + 1) = (fine l[j + 1] && lt l[j] l[j + 1]) := by
  simp [stepOk, h, Nat.lt_of_succ_lt h]
theorem rowOk_no {α : Type} {fine : α → Bool} {lt : α → α → Bool} {l : List α} {k : Nat} (hk : k < l.length) (h : stepOk fine lt l k = false) : rowOk fine lt l = false := by
  rw [← Bool.not_eq_true]
  intro e
  have := List.all_eq_true.1 e k (List.mem_range.2 hk)
  rw [h] at this
  cases this
theorem rowOk_yes {α : Type} {fine : α → Bool} {lt : α → α → Bool} {l : List α} (h : ∀ j, j < l.length → stepOk fine lt l j = true) : rowOk fine lt l = true :=
  List.all_eq_true.2 fun j hj => h j (List.mem_range.1 hj)
def itemFine (e : ItemD) : Bool := within (e.key.size : Int) 1 8 && (decide ((e.val.size : Int) ≤ 20) && within e.ver 1 1000000000)
def keyLt (a b : ItemD) : Bool := Op.bytesLess a.key.toList b.key.toList
def sessionFine (e : SessionD) : Bool := within e.token 1 1000000 && (within e.last 0 1000000 && (decide ((e.reply.size : Int) ≤ 40) && (!decide (e.last = 0) || decide (e.reply.size = 0))))
def tokenLt (a b : SessionD) : Bool := decide (a.token < b.token)
def sessionsRight (l : List SessionD) : Bool := rowOk sessionFine tokenLt l && decide ((l.length : Int) ≤ 3)
def itemsRight (l : List ItemD) : Bool := rowOk itemFine keyLt l && decide ((l.length : Int) ≤ 8)
def keepOk (ls : List SessionD) (li : List ItemD) : Bool := sessionsRight ls && itemsRight li
theorem blank_text (s : ByteArray) : (s.toList == []) = decide (s.size = 0) := by
  rw [ByteArray.toList_eq]
  by_cases h : s.size = 0
  · have : s.data.toList = [] := List.eq_nil_of_length_eq_zero (by simpa using h)
    simp [this, h]
  · have : (s.data.toList == []) = false := by
      rw [beq_eq_false_iff_ne]
      intro e
      exact h (by simpa using congrArg List.length e)
    rw [this]
    simp [h]
end Go.Proofs.Ytcflcddeimihcaa
