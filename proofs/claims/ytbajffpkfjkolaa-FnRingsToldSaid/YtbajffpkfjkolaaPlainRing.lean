/-
  Rings as data: how many slots are the card's, what a right ring is.
-/
import Derived.Test.YtbajffpkfjkolaaDataSlot
namespace Go.Proofs.Ytbajffpkfjkolaa
open Go.RowKit

/-- how many are the card's -/
def heldBy (l : List SlotD) : Nat := (l.filter fun e => e.own == 1).length
theorem heldBy_le (l : List SlotD) : heldBy l ≤ l.length := List.length_filter_le _ _
theorem heldBy_take (l : List SlotD) (k : Nat) (h : k < l.length) : heldBy (l.take (k + 1)) = heldBy (l.take k) + if l[k].own = 1 then 1 else 0 := by
  rw [heldBy, List.take_succ_eq_append_getElem h, List.filter_append, List.length_append, ← heldBy]
  by_cases e : l[k].own = 1 <;> simp [e]

/-- a slot at a place -/
def slotAt (l : List SlotD) (p : Nat) : SlotD := l.getD p ⟨0, ByteArray.empty⟩
theorem slotAt_eq {l : List SlotD} {p : Nat} (h : p < l.length) : slotAt l p = l[p] := by simp [slotAt, h]
def isFree (e : SlotD) : Bool := e.own == 0 && e.text.size == 0
def isPosted (e : SlotD) : Bool := e.own == 1 && decide (1 ≤ e.text.size) && decide (e.text.size ≤ 100)
/-- how many slots Head and Tail leave to the card -/
def ringHeld (l : List SlotD) (h t : Nat) : Nat := if h = t ∧ (slotAt l t).own = 1 then l.length else (h + l.length - t) % l.length
/-- is the i-th slot from Tail on as it must be? -/
def ringGood (l : List SlotD) (h t i : Nat) : Bool := if i < ringHeld l h t then isPosted (slotAt l ((t + i) % l.length)) else isFree (slotAt l ((t + i) % l.length))
def ringAll (l : List SlotD) (h t k : Nat) : Bool := (List.range k).all (ringGood l h t)
theorem ringAll_succ (l : List SlotD) (h t k : Nat) : ringAll l h t (k + 1) = (ringAll l h t k && ringGood l h t k) := by
  simp [ringAll, List.range_succ]
theorem ringAll_no {l : List SlotD} {h t k n : Nat} (hk : k < n) (hg : ringGood l h t k = false) : ringAll l h t n = false := by
  have hx : k ∈ List.range n := List.mem_range.2 hk
  cases hr : ringAll l h t n with
  | false => rfl
  | true =>
    have := List.all_eq_true.1 hr k hx
    rw [hg] at this
    cases this
/-- the ring's head and tail are places -/
def ringPlaces (l : List SlotD) (h t : Int) : Prop := (1 ≤ l.length ∧ l.length ≤ 8) ∧ (0 ≤ h ∧ h < l.length) ∧ (0 ≤ t ∧ t < l.length)
/-- a right ring -/
def ringOk (l : List SlotD) (h t : Int) : Bool := decide (1 ≤ l.length) && decide (l.length ≤ 8) && decide (0 ≤ h) && decide (h < l.length) && decide (0 ≤ t) && decide (t < l.length) && ringAll l h.toNat t.toNat l.length
theorem ringOk_places {l : List SlotD} {h t : Int} (hr : ringOk l h t = true) : ringPlaces l h t := by
  unfold ringOk at hr
  simp only [Bool.and_eq_true, decide_eq_true_eq] at hr
  unfold ringPlaces
  omega
theorem ringOk_not {l : List SlotD} {h t : Int} (hp : ¬ ringPlaces l h t) : ringOk l h t = false := by
  cases hr : ringOk l h t with
  | false => rfl
  | true => exact absurd (ringOk_places hr) hp
theorem ringOk_in {l : List SlotD} {h t : Nat} (hp : ringPlaces l h t) : ringOk l h t = ringAll l h t l.length := by
  obtain ⟨⟨a, b⟩, ⟨c, d⟩, e, f⟩ := hp
  simp [ringOk, a, b, d, f]
end Go.Proofs.Ytbajffpkfjkolaa
