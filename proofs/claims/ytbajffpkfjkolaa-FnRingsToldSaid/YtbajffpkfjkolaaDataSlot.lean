/-
  Slot as data; rows of them in memory, one behind the other.
-/
import Derived.Test.YtbajffpkfjkolaaBlock
import Derived.BigQuiet
import Derived.Deep.LoopGhost
namespace Go.Proofs.Ytbajffpkfjkolaa
open Go.RowKit

structure SlotD where
  own : Int
  text : ByteArray
/-- numbers that are numbers, texts that are texts -/
def SlotD.Fits (e : SlotD) : Prop := (-9223372036854775808 ≤ e.own ∧ e.own ≤ 9223372036854775807) ∧ e.text.size ≤ maxLen
def slotEnc (e : SlotD) : List Value := [.int .i64 e.own, .string e.text]
/-- the cells of a row -/
def slotCells (l : List SlotD) : List Value := l.flatMap slotEnc
theorem slotCells_length (l : List SlotD) : (slotCells l).length = l.length * 2 := row_length slotEnc 2 (fun _ => rfl) l
theorem slotCells_take (l : List SlotD) (k : Nat) (h : k < l.length) : slotCells (l.take (k + 1)) = slotCells (l.take k) ++ slotEnc l[k] := by
  rw [List.take_succ_eq_append_getElem h, slotCells, slotCells, List.flatMap_append]
  simp
/-- how many letters -/
def slotOne (e : SlotD) : Int := (e.text.size : Int)
theorem slotOne_nonneg (e : SlotD) : 0 ≤ slotOne e := by unfold slotOne; omega
def slotBulk : List SlotD → Int
  | [] => 0
  | f :: l => slotOne f + slotBulk l
theorem slotBulk_nonneg (l : List SlotD) : 0 ≤ slotBulk l := by
  induction l with
  | nil => exact Int.le_refl 0
  | cons f l ih => have := slotOne_nonneg f; simp only [slotBulk]; omega
theorem slotBulk_take (l : List SlotD) (k : Nat) (h : k < l.length) : slotBulk (l.take (k + 1)) = slotBulk (l.take k) + slotOne l[k] := by
  induction l generalizing k with
  | nil => simp at h
  | cons f l ih =>
    cases k with
    | zero => simp [slotBulk]
    | succ k =>
      have := ih k (by simpa using h)
      simp only [List.take_succ_cons, slotBulk, List.getElem_cons_succ] at this ⊢
      omega
theorem slotBulk_le (l : List SlotD) (k : Nat) : slotBulk (l.take k) ≤ slotBulk l := by
  induction l generalizing k with
  | nil => simp [slotBulk]
  | cons f l ih =>
    cases k with
    | zero => have := slotBulk_nonneg (f :: l); simpa [slotBulk] using this
    | succ k => have := ih k; simp only [List.take_succ_cons, slotBulk]; omega
theorem slot_le_bulk {l : List SlotD} {f : SlotD} (h : f ∈ l) : slotOne f ≤ slotBulk l := by
  induction l with
  | nil => cases h
  | cons g l ih =>
    simp only [slotBulk]
    have := slotBulk_nonneg l
    have := slotOne_nonneg g
    rcases List.mem_cons.1 h with e | e
    · subst e; omega
    · have := ih e; omega
/-- few and short -/
def SlotsSmall (l : List SlotD) : Prop := l.length ≤ 1048576 ∧ ∀ f ∈ l, slotOne f ≤ 1048576
theorem slotsSmall {l : List SlotD} (h : 0 ≤ (1048576 : Int) - l.length - slotBulk l) : SlotsSmall l := by
  have := slotBulk_nonneg l
  exact ⟨by omega, fun f hf => by have := slot_le_bulk hf; omega⟩
/-- they lie at an address, one behind the other -/
def SlotsAt (w : World) (ao : Option Addr) (l : List SlotD) : Prop :=
  l ≠ [] → ∃ b off, ao = some ⟨b, off, none⟩ ∧ ∀ j (hj : j < l.length), w.cell? ⟨b, off + j * 2, none⟩ = some (.int .i64 l[j].own) ∧ w.cell? ⟨b, off + j * 2 + 1, none⟩ = some (.string l[j].text)
theorem slotsAt_of {w : World} {g : Nat} {t : TypeId} {l : List SlotD} {r : List Value} (h : BlockIs w g t (slotCells l ++ r)) : SlotsAt w (some ⟨g, 0, none⟩) l := by
  intro _
  refine ⟨g, 0, rfl, fun j hj => ?_⟩
  rw [Nat.zero_add]
  exact ⟨h.cell (row_at slotEnc 2 (fun _ => rfl) l r j 0 hj (by omega)), h.cell (row_at slotEnc 2 (fun _ => rfl) l r j 1 hj (by omega))⟩
def SlotsFit (l : List SlotD) : Prop := ∀ j (hj : j < l.length), l[j].Fits
theorem SlotsAt.on {w w' : World} {ao : Option Addr} {l : List SlotD} (h : SlotsAt w ao l) (hb : Below w.heap.size w w') : SlotsAt w' ao l := by
  intro h0
  obtain ⟨b, off, e1, e2⟩ := h h0
  refine ⟨b, off, e1, fun j hj => ?_⟩
  obtain ⟨x0, x1⟩ := e2 j hj
  exact ⟨(hb.cell (p := ⟨b, off + j * 2, none⟩) (World.block_lt_of_cell? w _ x0)).trans x0, (hb.cell (p := ⟨b, off + j * 2 + 1, none⟩) (World.block_lt_of_cell? w _ x1)).trans x1⟩
/-- cells of a list, written -/
theorem slot_sets (p : List Value) (a0 a1 o0 o1 : Value) (r : List Value) : ((p ++ o0 :: o1 :: r).set (p.length) a0).set (p.length + 1) a1 = p ++ a0 :: a1 :: r := by
  rw [List.set_append_right _ _ (Nat.le_refl _), List.set_append_right _ _ (by omega)]
  simp
theorem slot_set_other {cs : List Value} {i j : Nat} {v u : Value} (h : cs[j]? = some u) (hij : i ≠ j) : (cs.set i v)[j]? = some u := by
  rw [List.getElem?_set_ne hij]; exact h
end Go.Proofs.Ytbajffpkfjkolaa
