/-
  A wheel in memory, one slot or one number of it written.
-/
import Derived.Test.YtbajffpkfjkolaaWheelMem
namespace Go.Proofs.Ytbajffpkfjkolaa
open Go.RowKit

theorem slotCells_set (L : List SlotD) (p : Nat) (hp : p < L.length) (d : SlotD) : ((slotCells L).set (p * 2) (.int .i64 d.own)).set (p * 2 + 1) (.string d.text) = slotCells (L.set p d) := by
  have e1 : slotCells L = slotCells (L.take p) ++ .int .i64 L[p].own :: .string L[p].text :: slotCells (L.drop (p + 1)) := by
    have h0 : L = L.take p ++ (L[p] :: L.drop (p + 1)) := by rw [← List.drop_eq_getElem_cons hp, List.take_append_drop]
    have h1 : slotCells L = slotCells (L.take p ++ (L[p] :: L.drop (p + 1))) := by rw [← h0]
    rw [h1, slotCells, List.flatMap_append]
    rfl
  have e2 : slotCells (L.set p d) = slotCells (L.take p) ++ .int .i64 d.own :: .string d.text :: slotCells (L.drop (p + 1)) := by
    rw [List.set_eq_take_append_cons_drop, if_pos hp, slotCells, List.flatMap_append]
    rfl
  have e3 := slot_sets (slotCells (L.take p)) (.int .i64 d.own) (.string d.text) (.int .i64 L[p].own) (.string L[p].text) (slotCells (L.drop (p + 1)))
  rw [slotCells_length, List.length_take, Nat.min_eq_left (by omega)] at e3
  rw [e1, e3, e2]
theorem wheelC_set {l : List SlotD} {h t p : Nat} (h8 : l.length ≤ 8) (hp : p < l.length) (d : SlotD) : ((wheelC l h t).set (p * 2) (.int .i64 d.own)).set (p * 2 + 1) (.string d.text) = wheelC (l.set p d) h t := by
  unfold wheelC
  have h16 := slotCells8 h8
  rw [List.set_append_left _ _ (by rw [h16]; omega), List.set_append_left _ _ (by rw [List.length_set, h16]; omega), slotCells_set (padS l) p (by rw [padS_length h8]; omega) d, padS_set d hp, List.length_set]
theorem wheelC_head {l : List SlotD} {h t h' : Nat} (h8 : l.length ≤ 8) : (wheelC l h t).set 17 (.int .i64 h') = wheelC l h' t := by
  unfold wheelC
  rw [List.set_append_right _ _ (by rw [slotCells8 h8]; omega), slotCells8 h8]
  rfl
theorem wheelC_tail {l : List SlotD} {h t t' : Nat} (h8 : l.length ≤ 8) : (wheelC l h t).set 18 (.int .i64 t') = wheelC l h t' := by
  unfold wheelC
  rw [List.set_append_right _ _ (by rw [slotCells8 h8]; omega), slotCells8 h8]
  rfl
theorem WheelIs.put {w : World} {b : Nat} {l : List SlotD} {h t p : Nat} (hw : WheelIs w b l h t) (hp : p < l.length) (d : SlotD) : WheelIs ((w.setCell ⟨b, p * 2, none⟩ (.int .i64 d.own)).setCell ⟨b, p * 2 + 1, none⟩ (.string d.text)) b (l.set p d) h t := by
  have h1 := (hw.1.set (p * 2) (.int .i64 d.own)).set (p * 2 + 1) (.string d.text)
  rw [wheelC_set hw.2.1.2 hp] at h1
  exact ⟨h1, by rw [List.length_set]; exact hw.2⟩
theorem WheelIs.setHead {w : World} {b : Nat} {l : List SlotD} {h t h' : Nat} (hw : WheelIs w b l h t) (hh : h' < l.length) : WheelIs (w.setCell ⟨b, 17, none⟩ (.int .i64 h')) b l h' t := by
  have h1 := hw.1.set 17 (.int .i64 h')
  rw [wheelC_head hw.2.1.2] at h1
  exact ⟨h1, hw.2.1, hh, hw.2.2.2⟩
theorem WheelIs.setTail {w : World} {b : Nat} {l : List SlotD} {h t t' : Nat} (hw : WheelIs w b l h t) (hh : t' < l.length) : WheelIs (w.setCell ⟨b, 18, none⟩ (.int .i64 t')) b l h t' := by
  have h1 := hw.1.set 18 (.int .i64 t')
  rw [wheelC_tail hw.2.1.2] at h1
  exact ⟨h1, hw.2.1, hw.2.2.1, hh⟩
theorem WheelIs.slots {w : World} {b : Nat} {l : List SlotD} {h t : Nat} (hw : WheelIs w b l h t) : SlotsAt w (some ⟨b, 0, none⟩) l := by
  intro _
  refine ⟨b, 0, rfl, fun j hj => ?_⟩
  have h8 : j < 8 := by have := hw.2.1.2; omega
  have h1 := hw.own h8
  have h2 := hw.text h8
  rw [slotAt_eq hj] at h1 h2
  rw [Nat.zero_add]
  exact ⟨h1, h2⟩
set_option maxRecDepth 1000000 in
theorem arr_size : (Try.prog.info? (Try.prog.elem 43)).map (·.size) = some 2 := by kernel_rfl
set_option maxRecDepth 1000000 in
theorem arr_len : Try.prog.arrayLen 43 = 8 := by kernel_rfl
set_option maxRecDepth 1000000 in
theorem arr_under : Try.prog.underlying 43 = some (.array (Try.prog.arrayLen 43) (Try.prog.elem 43)) := by kernel_rfl
/-- the first n slots of a wheel, as a slice -/
theorem slice_wheel (W : World) (b n : Nat) (hn : n ≤ 8) : (Instr.sliceAt 43 (.pointer (some ⟨b, 0, none⟩)) none (some (.int .i64 n)) none).run Try.prog W = .ok (.slice (some ⟨b, 0, none⟩) n 8) W := by
  rw [run_sliceAt_array_h W 43 ⟨b, 0, none⟩ arr_under .i64 n (by omega) (by rw [arr_len]; omega)]
  have hs := arr_size
  cases hq : Try.prog.info? (Try.prog.elem 43) with
  | none => rw [hq] at hs; cases hs
  | some i =>
    rw [arr_len]
    simp [sizeOf, typeInfo, hq, slicedAt, Addr.add]
end Go.Proofs.Ytbajffpkfjkolaa
