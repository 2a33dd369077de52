/-
  What is posted and taken, as data.
-/
import Derived.Test.YtbajffpkfjkolaaPlainWheel
namespace Go.Proofs.Ytbajffpkfjkolaa

def postOk (l : List SlotD) (h t : Int) (s : ByteArray) : Bool := ringOk l h t && (decide (1 ≤ s.size) && decide (s.size ≤ 100)) && !((slotAt l h.toNat).own == 1)
def postL (l : List SlotD) (h t : Int) (s : ByteArray) : List SlotD := if postOk l h t s then l.set h.toNat ⟨1, s⟩ else l
def postH (l : List SlotD) (h t : Int) (s : ByteArray) : Int := if postOk l h t s then ((h.toNat + 1) % l.length : Nat) else h
theorem postL_length (l : List SlotD) (h t : Int) (s : ByteArray) : (postL l h t s).length = l.length := by unfold postL; split <;> simp
def takeOk (l : List SlotD) (h t : Int) : Bool := ringOk l h t && !((slotAt l t.toNat).own == 0)
def takeL (l : List SlotD) (h t : Int) : List SlotD := if takeOk l h t then l.set t.toNat slot0 else l
def takeT (l : List SlotD) (h t : Int) : Int := if takeOk l h t then ((t.toNat + 1) % l.length : Nat) else t
def takeS (l : List SlotD) (h t : Int) : ByteArray := if takeOk l h t then (slotAt l t.toNat).text else ByteArray.empty
theorem takeL_length (l : List SlotD) (h t : Int) : (takeL l h t).length = l.length := by unfold takeL; split <;> simp
theorem mem_set_all {P : SlotD → Prop} {l : List SlotD} {p : Nat} {d : SlotD} (hd : P d) (h : ∀ f ∈ l, P f) : ∀ f ∈ l.set p d, P f := by
  intro f hf
  rcases List.mem_or_eq_of_mem_set hf with h1 | h1
  · exact h f h1
  · rw [h1]; exact hd
/-- in a right ring a slot is the card's or free -/
theorem slot_either {l : List SlotD} {h t p : Nat} (hr : ringAll l h t l.length = true) (hp : p < l.length) (ht : t < l.length) : isPosted (slotAt l p) = true ∨ isFree (slotAt l p) = true := by
  have hg : ∀ i, i < l.length → ringGood l h t i = true := fun i hi => List.all_eq_true.1 hr i (List.mem_range.2 hi)
  obtain ⟨i, hi, e⟩ : ∃ i, i < l.length ∧ (t + i) % l.length = p := by
    by_cases hle : t ≤ p
    · exact ⟨p - t, by omega, by rw [show t + (p - t) = p by omega, Nat.mod_eq_of_lt hp]⟩
    · exact ⟨p + l.length - t, by omega, by rw [show t + (p + l.length - t) = p + l.length by omega, Nat.add_mod_right, Nat.mod_eq_of_lt hp]⟩
  have := hg i hi
  unfold ringGood at this
  rw [e] at this
  split at this
  · exact Or.inl this
  · exact Or.inr this
theorem posted_own {d : SlotD} (h : isPosted d = true) : d.own = 1 := by
  unfold isPosted at h
  simp at h
  exact h.1.1
theorem free_own {d : SlotD} (h : isFree d = true) : d.own = 0 := by
  unfold isFree at h
  simp at h
  exact h.1
end Go.Proofs.Ytbajffpkfjkolaa
