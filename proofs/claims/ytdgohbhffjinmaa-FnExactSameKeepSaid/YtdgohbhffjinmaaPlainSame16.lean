/-
  Lists that are alike, one by one; nothing of the program stands here.
-/
import Derived.Test.YtdgohbhffjinmaaDataSession
import Derived.Test.YtdgohbhffjinmaaDataItem
namespace Go.Proofs.Ytdgohbhffjinmaa
open Go.RowKit

def sessEq (a b : SessionD) : Bool := a.token == b.token && (a.last == b.last && a.reply.toList == b.reply.toList)
def itemEq (a b : ItemD) : Bool := a.key.toList == b.key.toList && (a.val.toList == b.val.toList && a.ver == b.ver)
theorem text_ext16 {a b : ByteArray} (h : a.toList = b.toList) : a = b := by
  rw [ByteArray.toList_eq, ByteArray.toList_eq] at h
  exact ByteArray.ext (Array.toList_inj.1 h)
theorem sessEq_iff {a b : SessionD} : sessEq a b = true ↔ a = b := by
  obtain ⟨a1, a2, a3⟩ := a
  obtain ⟨b1, b2, b3⟩ := b
  simp only [sessEq, Bool.and_eq_true, beq_iff_eq, SessionD.mk.injEq]
  exact ⟨fun ⟨x, y, z⟩ => ⟨x, y, text_ext16 z⟩, fun ⟨x, y, z⟩ => ⟨x, y, by rw [z]⟩⟩
theorem itemEq_iff {a b : ItemD} : itemEq a b = true ↔ a = b := by
  obtain ⟨a1, a2, a3⟩ := a
  obtain ⟨b1, b2, b3⟩ := b
  simp only [itemEq, Bool.and_eq_true, beq_iff_eq, ItemD.mk.injEq]
  exact ⟨fun ⟨x, y, z⟩ => ⟨text_ext16 x, text_ext16 y, z⟩, fun ⟨x, y, z⟩ => ⟨by rw [x], by rw [y], z⟩⟩
def alikeBy {α : Type} (eq : α → α → Bool) : List α → List α → Bool
  | [], [] => true
  | x :: xs, y :: ys => eq x y && alikeBy eq xs ys
  | _, _ => false
theorem alikeBy_len {α : Type} {eq : α → α → Bool} : ∀ {l m : List α}, l.length ≠ m.length → alikeBy eq l m = false
  | [], [], h => absurd rfl h
  | [], _ :: _, _ => rfl
  | _ :: _, [], _ => rfl
  | x :: xs, y :: ys, h => by
    rw [alikeBy, alikeBy_len (l := xs) (m := ys) (by simpa using h), Bool.and_false]
theorem alikeBy_step {α : Type} {eq : α → α → Bool} {l m : List α} {k : Nat} (hl : k < l.length) (hm : k < m.length) : alikeBy eq (l.drop k) (m.drop k) = (eq l[k] m[k] && alikeBy eq (l.drop (k + 1)) (m.drop (k + 1))) := by
  rw [List.drop_eq_getElem_cons hl, List.drop_eq_getElem_cons hm, alikeBy]
theorem alikeBy_end {α : Type} {eq : α → α → Bool} {l m : List α} {k : Nat} (hl : l.length ≤ k) (hm : m.length ≤ k) : alikeBy eq (l.drop k) (m.drop k) = true := by
  rw [List.drop_of_length_le hl, List.drop_of_length_le hm, alikeBy]
theorem alikeBy_iff {α : Type} {eq : α → α → Bool} (he : ∀ a b, eq a b = true ↔ a = b) : ∀ {l m : List α}, alikeBy eq l m = true ↔ l = m
  | [], [] => by simp [alikeBy]
  | [], _ :: _ => by simp [alikeBy]
  | _ :: _, [] => by simp [alikeBy]
  | x :: xs, y :: ys => by
    rw [alikeBy, Bool.and_eq_true, he, alikeBy_iff he, List.cons.injEq]
def keepSame (a b : List SessionD) (c d : List ItemD) : Bool := alikeBy sessEq a b && alikeBy itemEq c d
end Go.Proofs.Ytdgohbhffjinmaa
