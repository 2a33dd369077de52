/-
  An element of a row of Late, written; a row that was just made.
-/
import Derived.Test.YthbdkfdcbglpoaaDataLate
import Derived.Test.YthbdkfdcbglpoaaRows
import Derived.OwnWalk
namespace Go.Proofs.Ythbdkfdcbglpoaa
open Go.RowKit

theorem toLate_info : (Try.prog.info? 60).map (fun i => (i.zero, i.size, i.bytes)) = some (some (.agg #[.int .i64 0, .string ByteArray.empty]), 2, 24) := by kernel_rfl
/-- an element's cells are written -/
theorem put_late {w w2 : World} {g k : Nat} {t : TypeId} {l : List LateD} {r : List Value} (hk : k < l.length) (h : BlockIs w g t (lateCells (l.take k) ++ r)) (hr : r.length = (l.length - k) * 2) {B : Nat} (hb : Below B w w2) (hg : g < B) :
    (∃ o0 o1, w2.cell? ⟨g, k * 2, none⟩ = some o0 ∧ w2.cell? ⟨g, k * 2 + 1, none⟩ = some o1) ∧ (∀ j, w2.frozen? ⟨g, j, none⟩ = false) ∧
    ∃ r', r'.length = (l.length - (k + 1)) * 2 ∧ BlockIs ((w2.setCell ⟨g, k * 2, none⟩ (.int .i64 l[k].num)).setCell ⟨g, k * 2 + 1, none⟩ (.string l[k].text)) g t (lateCells (l.take (k + 1)) ++ r') := by
  have h2 := h.on hb hg
  have hlen : (lateCells (l.take k)).length = k * 2 := by rw [lateCells_length, List.length_take]; omega
  match r, hr with
  | z0 :: z1 :: r', hr =>
    have hs := (h2.set (k * 2) (.int .i64 l[k].num)).set (k * 2 + 1) (.string l[k].text)
    have e3 := late_sets (lateCells (l.take k)) (.int .i64 l[k].num) (.string l[k].text) z0 z1 r'
    rw [hlen] at e3
    rw [e3] at hs
    refine ⟨⟨z0, z1, h2.cell ?_, h2.cell ?_⟩, fun j => h2.thaw j, r', ?_, ?_⟩
    · rw [List.getElem?_append_right (by omega), hlen, Nat.sub_self]; rfl
    · rw [List.getElem?_append_right (by omega), hlen, show k * 2 + 1 - k * 2 = 1 by omega]; rfl
    · simp at hr; omega
    · rw [lateCells_take l k hk, List.append_assoc]
      exact hs
  | [], hr => simp at hr; omega
  | [_], hr => simp at hr; omega

theorem made_late (n : Nat) : (madeCells (Value.agg #[.int .i64 0, .string ByteArray.empty]).cells (n * 2)).toList.length = n * 2 := by
  simp [madeCells]
end Go.Proofs.Ythbdkfdcbglpoaa
