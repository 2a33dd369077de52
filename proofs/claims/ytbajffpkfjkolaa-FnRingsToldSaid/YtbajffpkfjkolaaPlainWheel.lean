/-
  A wheel as data: the slots of a ring in an array of eight, and three numbers.
-/
import Derived.Test.YtbajffpkfjkolaaPlainRing
namespace Go.Proofs.Ytbajffpkfjkolaa
open Go.RowKit

def slot0 : SlotD := ⟨0, ByteArray.empty⟩
def padS (l : List SlotD) : List SlotD := l ++ List.replicate (8 - l.length) slot0
theorem padS_length {l : List SlotD} (h : l.length ≤ 8) : (padS l).length = 8 := by simp [padS]; omega
theorem padS_get {l : List SlotD} (p : Nat) (hp : p < (padS l).length) : (padS l)[p] = slotAt l p := by
  unfold padS at hp ⊢
  by_cases h : p < l.length
  · rw [List.getElem_append_left h, slotAt_eq h]
  · rw [List.getElem_append_right (by omega), List.getElem_replicate]
    unfold slotAt
    rw [List.getD, List.getElem?_eq_none (by omega)]
    rfl
theorem padS_set {l : List SlotD} {p : Nat} (e : SlotD) (hp : p < l.length) : (padS l).set p e = padS (l.set p e) := by
  unfold padS
  rw [List.set_append_left _ _ hp, List.length_set]
/-- the cells of a wheel -/
def wheelC (l : List SlotD) (h t : Nat) : List Value := slotCells (padS l) ++ [.int .i64 l.length, .int .i64 h, .int .i64 t]
theorem slotCells8 {l : List SlotD} (h8 : l.length ≤ 8) : (slotCells (padS l)).length = 16 := by rw [slotCells_length, padS_length h8]
theorem wheelC_length {l : List SlotD} {h t : Nat} (h8 : l.length ≤ 8) : (wheelC l h t).length = 19 := by
  rw [wheelC, List.length_append, slotCells8 h8]; rfl
theorem wheelC_own {l : List SlotD} {h t p : Nat} (h8 : l.length ≤ 8) (hp : p < 8) : (wheelC l h t)[p * 2]? = some (.int .i64 (slotAt l p).own) := by
  have hq : p < (padS l).length := by rw [padS_length h8]; exact hp
  have := row_at slotEnc 2 (fun _ => rfl) (padS l) [.int .i64 l.length, .int .i64 h, .int .i64 t] p 0 hq (by omega)
  rw [padS_get p hq] at this
  exact this
theorem wheelC_text {l : List SlotD} {h t p : Nat} (h8 : l.length ≤ 8) (hp : p < 8) : (wheelC l h t)[p * 2 + 1]? = some (.string (slotAt l p).text) := by
  have hq : p < (padS l).length := by rw [padS_length h8]; exact hp
  have := row_at slotEnc 2 (fun _ => rfl) (padS l) [.int .i64 l.length, .int .i64 h, .int .i64 t] p 1 hq (by omega)
  rw [padS_get p hq] at this
  exact this
theorem wheelC_num {l : List SlotD} {h t j : Nat} (h8 : l.length ≤ 8) : (wheelC l h t)[16 + j]? = [Value.int .i64 l.length, .int .i64 h, .int .i64 t][j]? := by
  rw [wheelC, List.getElem?_append_right (by rw [slotCells8 h8]; omega), slotCells8 h8, Nat.add_sub_cancel_left]
theorem slotEnc_one (e : SlotD) : ∀ v ∈ slotEnc e, v.oneCell' = true := by
  intro v hv
  simp [slotEnc] at hv
  rcases hv with rfl | rfl <;> rfl
theorem slotCells_one (l : List SlotD) : ∀ v ∈ slotCells l, v.oneCell' = true := by
  intro v hv
  obtain ⟨e, _, he⟩ := List.mem_flatMap.1 hv
  exact slotEnc_one e v he
theorem wheelC_one (l : List SlotD) (h t : Nat) : ∀ v ∈ wheelC l h t, v.oneCell' = true := by
  intro v hv
  rcases List.mem_append.1 hv with hv | hv
  · exact slotCells_one _ v hv
  · simp at hv
    rcases hv with rfl | rfl | rfl <;> rfl
/-- a wheel lies at a block -/
def WheelIs (w : World) (b : Nat) (l : List SlotD) (h t : Nat) : Prop := BlockIs w b 45 (wheelC l h t) ∧ (1 ≤ l.length ∧ l.length ≤ 8) ∧ h < l.length ∧ t < l.length
theorem WheelIs.on {w w' : World} {b : Nat} {l : List SlotD} {h t : Nat} (hw : WheelIs w b l h t) (hb : Below w.heap.size w w') : WheelIs w' b l h t := ⟨hw.1.on hb hw.1.lt, hw.2⟩
theorem WheelIs.own {w : World} {b : Nat} {l : List SlotD} {h t : Nat} (hw : WheelIs w b l h t) {p : Nat} (hp : p < 8) : w.cell? ⟨b, p * 2, none⟩ = some (.int .i64 (slotAt l p).own) := hw.1.cell (wheelC_own hw.2.1.2 hp)
theorem WheelIs.text {w : World} {b : Nat} {l : List SlotD} {h t : Nat} (hw : WheelIs w b l h t) {p : Nat} (hp : p < 8) : w.cell? ⟨b, p * 2 + 1, none⟩ = some (.string (slotAt l p).text) := hw.1.cell (wheelC_text hw.2.1.2 hp)
theorem WheelIs.count {w : World} {b : Nat} {l : List SlotD} {h t : Nat} (hw : WheelIs w b l h t) : w.cell? ⟨b, 16, none⟩ = some (.int .i64 l.length) := hw.1.cell (wheelC_num (j := 0) hw.2.1.2)
theorem WheelIs.head {w : World} {b : Nat} {l : List SlotD} {h t : Nat} (hw : WheelIs w b l h t) : w.cell? ⟨b, 17, none⟩ = some (.int .i64 h) := hw.1.cell (wheelC_num (j := 1) hw.2.1.2)
theorem WheelIs.tail {w : World} {b : Nat} {l : List SlotD} {h t : Nat} (hw : WheelIs w b l h t) : w.cell? ⟨b, 18, none⟩ = some (.int .i64 t) := hw.1.cell (wheelC_num (j := 2) hw.2.1.2)
end Go.Proofs.Ytbajffpkfjkolaa
