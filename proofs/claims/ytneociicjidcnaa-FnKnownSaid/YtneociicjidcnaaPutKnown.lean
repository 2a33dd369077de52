/-
  An element of a row of Known, written; a row that was just made.
-/
import Derived.Test.YtneociicjidcnaaDataKnown
import Derived.Test.YtneociicjidcnaaRows
import Derived.OwnWalk
namespace Go.Proofs.Ytneociicjidcnaa
open Go.RowKit

theorem toKnown_info : (Try.prog.info? 30).map (fun i => (i.zero, i.size, i.bytes)) = some (some (.agg #[.int .i64 0, .int .i64 0]), 2, 16) := by kernel_rfl
/-- an element's cells are written -/
theorem put_known {w w2 : World} {g k : Nat} {t : TypeId} {l : List KnownD} {r : List Value} (hk : k < l.length) (h : BlockIs w g t (knownCells (l.take k) ++ r)) (hr : r.length = (l.length - k) * 2) {B : Nat} (hb : Below B w w2) (hg : g < B) :
    (∃ o0 o1, w2.cell? ⟨g, k * 2, none⟩ = some o0 ∧ w2.cell? ⟨g, k * 2 + 1, none⟩ = some o1) ∧ (∀ j, w2.frozen? ⟨g, j, none⟩ = false) ∧
    ∃ r', r'.length = (l.length - (k + 1)) * 2 ∧ BlockIs ((w2.setCell ⟨g, k * 2, none⟩ (.int .i64 l[k].addr)).setCell ⟨g, k * 2 + 1, none⟩ (.int .i64 l[k].card)) g t (knownCells (l.take (k + 1)) ++ r') := by
  have h2 := h.on hb hg
  have hlen : (knownCells (l.take k)).length = k * 2 := by rw [knownCells_length, List.length_take]; omega
  match r, hr with
  | z0 :: z1 :: r', hr =>
    have hs := (h2.set (k * 2) (.int .i64 l[k].addr)).set (k * 2 + 1) (.int .i64 l[k].card)
    have e3 := known_sets (knownCells (l.take k)) (.int .i64 l[k].addr) (.int .i64 l[k].card) z0 z1 r'
    rw [hlen] at e3
    rw [e3] at hs
    refine ⟨⟨z0, z1, h2.cell ?_, h2.cell ?_⟩, fun j => h2.thaw j, r', ?_, ?_⟩
    · rw [List.getElem?_append_right (by omega), hlen, Nat.sub_self]; rfl
    · rw [List.getElem?_append_right (by omega), hlen, show k * 2 + 1 - k * 2 = 1 by omega]; rfl
    · simp at hr; omega
    · rw [knownCells_take l k hk, List.append_assoc]
      exact hs
  | [], hr => simp at hr; omega
  | [_], hr => simp at hr; omega

theorem made_known (n : Nat) : (madeCells (Value.agg #[.int .i64 0, .int .i64 0]).cells (n * 2)).toList.length = n * 2 := by
  simp [madeCells]
end Go.Proofs.Ytneociicjidcnaa
