/-
  An element of a row of Item, written; a row that was just made.
-/
import Derived.Test.YtdgohbhffjinmaaDataItem
import Derived.Test.YtdgohbhffjinmaaRows
import Derived.OwnWalk
namespace Go.Proofs.Ytdgohbhffjinmaa
open Go.RowKit

theorem toItem_info : (Try.prog.info? 57).map (fun i => (i.zero, i.size, i.bytes)) = some (some (.agg #[.string ByteArray.empty, .string ByteArray.empty, .int .i64 0]), 3, 40) := by kernel_rfl
/-- an element's cells are written -/
theorem put_item {w w2 : World} {g k : Nat} {t : TypeId} {l : List ItemD} {r : List Value} (hk : k < l.length) (h : BlockIs w g t (itemCells (l.take k) ++ r)) (hr : r.length = (l.length - k) * 3) {B : Nat} (hb : Below B w w2) (hg : g < B) :
    (∃ o0 o1 o2, w2.cell? ⟨g, k * 3, none⟩ = some o0 ∧ w2.cell? ⟨g, k * 3 + 1, none⟩ = some o1 ∧ w2.cell? ⟨g, k * 3 + 2, none⟩ = some o2) ∧ (∀ j, w2.frozen? ⟨g, j, none⟩ = false) ∧
    ∃ r', r'.length = (l.length - (k + 1)) * 3 ∧ BlockIs (((w2.setCell ⟨g, k * 3, none⟩ (.string l[k].key)).setCell ⟨g, k * 3 + 1, none⟩ (.string l[k].val)).setCell ⟨g, k * 3 + 2, none⟩ (.int .i64 l[k].ver)) g t (itemCells (l.take (k + 1)) ++ r') := by
  have h2 := h.on hb hg
  have hlen : (itemCells (l.take k)).length = k * 3 := by rw [itemCells_length, List.length_take]; omega
  match r, hr with
  | z0 :: z1 :: z2 :: r', hr =>
    have hs := ((h2.set (k * 3) (.string l[k].key)).set (k * 3 + 1) (.string l[k].val)).set (k * 3 + 2) (.int .i64 l[k].ver)
    have e3 := item_sets (itemCells (l.take k)) (.string l[k].key) (.string l[k].val) (.int .i64 l[k].ver) z0 z1 z2 r'
    rw [hlen] at e3
    rw [e3] at hs
    refine ⟨⟨z0, z1, z2, h2.cell ?_, h2.cell ?_, h2.cell ?_⟩, fun j => h2.thaw j, r', ?_, ?_⟩
    · rw [List.getElem?_append_right (by omega), hlen, Nat.sub_self]; rfl
    · rw [List.getElem?_append_right (by omega), hlen, show k * 3 + 1 - k * 3 = 1 by omega]; rfl
    · rw [List.getElem?_append_right (by omega), hlen, show k * 3 + 2 - k * 3 = 2 by omega]; rfl
    · simp at hr; omega
    · rw [itemCells_take l k hk, List.append_assoc]
      exact hs
  | [], hr => simp at hr; omega
  | [_], hr => simp at hr; omega
  | [_, _], hr => simp at hr; omega

theorem made_item (n : Nat) : (madeCells (Value.agg #[.string ByteArray.empty, .string ByteArray.empty, .int .i64 0]).cells (n * 3)).toList.length = n * 3 := by
  simp [madeCells]
end Go.Proofs.Ytdgohbhffjinmaa
