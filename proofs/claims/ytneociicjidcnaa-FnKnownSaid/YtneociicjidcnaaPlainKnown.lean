/-
  Plain facts on what is known of cards: the list behind Learn, the card of an address; nothing of the program stands here.
-/
import Derived.Test.YtneociicjidcnaaDataKnown
import Derived.Test.YtneociicjidcnaaPlainIn
namespace Go.Proofs.Ytneociicjidcnaa
open Go.RowKit

/-- all but what has this address -/
def others (l : List KnownD) (a : Int) : List KnownD := l.filter (fun k => !(k.addr == a))
def learned (l : List KnownD) (a c : Int) : List KnownD := others l a ++ [⟨a, c⟩]
/-- the last four at most -/
def lastFour (l : List KnownD) : List KnownD := l.drop (l.length - 4)
def learn (l : List KnownD) (a c : Int) : List KnownD := if within a 1 99 && within c 1 99 then lastFour (learned l a c) else l
def cardOf : List KnownD → Int → Int
  | [], _ => 0
  | k :: l, a => if k.addr = a then k.card else cardOf l a

theorem others_length (l : List KnownD) (a : Int) : (others l a).length ≤ l.length := List.length_filter_le _ _
theorem others_take (l : List KnownD) (a : Int) (k : Nat) (h : k < l.length) : others (l.take (k + 1)) a = others (l.take k) a ++ (if l[k].addr = a then [] else [l[k]]) := by
  rw [List.take_succ_eq_append_getElem h, others, others, List.filter_append]
  congr 1
  by_cases e : l[k].addr = a <;> simp [e]
theorem learned_length (l : List KnownD) (a c : Int) : (learned l a c).length = (others l a).length + 1 := by simp [learned]
theorem lastFour_length (l : List KnownD) : (lastFour l).length = min l.length 4 := by rw [lastFour, List.length_drop]; omega
theorem lastFour_few {l : List KnownD} (h : l.length ≤ 4) : lastFour l = l := by rw [lastFour, show l.length - 4 = 0 by omega]; rfl
theorem lastFour_tail {x : KnownD} {l : List KnownD} (h : 4 < (x :: l).length) : lastFour (x :: l) = lastFour l := by
  rw [lastFour, lastFour, List.length_cons]
  simp at h
  rw [show l.length + 1 - 4 = (l.length - 4) + 1 by omega, List.drop_succ_cons]
theorem learn_yes {l : List KnownD} {a c : Int} (h1 : within a 1 99 = true) (h2 : within c 1 99 = true) : learn l a c = lastFour (learned l a c) := by rw [learn, h1, h2]; rfl
theorem learn_no {l : List KnownD} {a c : Int} (h : within a 1 99 = false ∨ within c 1 99 = false) : learn l a c = l := by
  rw [learn, if_neg]
  rcases h with h | h <;> simp [h]
theorem learn_length (l : List KnownD) (a c : Int) : (learn l a c).length ≤ l.length + 1 := by
  rw [learn]
  split
  · rw [lastFour_length, learned_length]
    have := others_length l a
    omega
  · omega
theorem learn_few (l : List KnownD) (a c : Int) : (learn l a c).length ≤ max l.length 4 := by
  rw [learn]
  split
  · rw [lastFour_length]; omega
  · omega
theorem cardOf_drop (l : List KnownD) (a : Int) (k : Nat) (h : k < l.length) : cardOf (l.drop k) a = if l[k].addr = a then l[k].card else cardOf (l.drop (k + 1)) a := by
  rw [List.drop_eq_getElem_cons h, cardOf]
/-- which one is the first one -/
theorem cardOf_here (l : List KnownD) (a : Int) (k : Nat) (h : k < l.length) (hn : ∀ j, (hj : j < k) → (l[j]'(by omega)).addr ≠ a) (he : l[k].addr = a) : cardOf l a = l[k].card := by
  induction l generalizing k with
  | nil => simp at h
  | cons x l ih =>
    cases k with
    | zero => exact if_pos he
    | succ k =>
      refine (if_neg (hn 0 (by omega))).trans ?_
      exact ih k (by simpa using h) (fun j hj => hn (j + 1) (by omega)) he
theorem cardOf_none (l : List KnownD) (a : Int) (hn : ∀ j, (hj : j < l.length) → l[j].addr ≠ a) : cardOf l a = 0 := by
  induction l with
  | nil => rfl
  | cons x l ih =>
    refine (if_neg (hn 0 (by simp))).trans ?_
    exact ih (fun j hj => hn (j + 1) (by simpa using hj))
end Go.Proofs.Ytneociicjidcnaa
