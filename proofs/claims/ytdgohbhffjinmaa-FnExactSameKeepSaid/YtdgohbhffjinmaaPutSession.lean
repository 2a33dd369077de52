/-
  An element of a row of Session, written; a row that was just made.
-/
import Derived.Test.YtdgohbhffjinmaaDataSession
import Derived.Test.YtdgohbhffjinmaaRows
import Derived.OwnWalk
namespace Go.Proofs.Ytdgohbhffjinmaa
open Go.RowKit

theorem toSession_info : (Try.prog.info? 55).map (fun i => (i.zero, i.size, i.bytes)) = some (some (.agg #[.int .i64 0, .int .i64 0, .string ByteArray.empty]), 3, 32) := by kernel_rfl
/-- an element's cells are written -/
theorem put_session {w w2 : World} {g k : Nat} {t : TypeId} {l : List SessionD} {r : List Value} (hk : k < l.length) (h : BlockIs w g t (sessionCells (l.take k) ++ r)) (hr : r.length = (l.length - k) * 3) {B : Nat} (hb : Below B w w2) (hg : g < B) :
    (∃ o0 o1 o2, w2.cell? ⟨g, k * 3, none⟩ = some o0 ∧ w2.cell? ⟨g, k * 3 + 1, none⟩ = some o1 ∧ w2.cell? ⟨g, k * 3 + 2, none⟩ = some o2) ∧ (∀ j, w2.frozen? ⟨g, j, none⟩ = false) ∧
    ∃ r', r'.length = (l.length - (k + 1)) * 3 ∧ BlockIs (((w2.setCell ⟨g, k * 3, none⟩ (.int .i64 l[k].token)).setCell ⟨g, k * 3 + 1, none⟩ (.int .i64 l[k].last)).setCell ⟨g, k * 3 + 2, none⟩ (.string l[k].reply)) g t (sessionCells (l.take (k + 1)) ++ r') := by
  have h2 := h.on hb hg
  have hlen : (sessionCells (l.take k)).length = k * 3 := by rw [sessionCells_length, List.length_take]; omega
  match r, hr with
  | z0 :: z1 :: z2 :: r', hr =>
    have hs := ((h2.set (k * 3) (.int .i64 l[k].token)).set (k * 3 + 1) (.int .i64 l[k].last)).set (k * 3 + 2) (.string l[k].reply)
    have e3 := session_sets (sessionCells (l.take k)) (.int .i64 l[k].token) (.int .i64 l[k].last) (.string l[k].reply) z0 z1 z2 r'
    rw [hlen] at e3
    rw [e3] at hs
    refine ⟨⟨z0, z1, z2, h2.cell ?_, h2.cell ?_, h2.cell ?_⟩, fun j => h2.thaw j, r', ?_, ?_⟩
    · rw [List.getElem?_append_right (by omega), hlen, Nat.sub_self]; rfl
    · rw [List.getElem?_append_right (by omega), hlen, show k * 3 + 1 - k * 3 = 1 by omega]; rfl
    · rw [List.getElem?_append_right (by omega), hlen, show k * 3 + 2 - k * 3 = 2 by omega]; rfl
    · simp at hr; omega
    · rw [sessionCells_take l k hk, List.append_assoc]
      exact hs
  | [], hr => simp at hr; omega
  | [_], hr => simp at hr; omega
  | [_, _], hr => simp at hr; omega

theorem made_session (n : Nat) : (madeCells (Value.agg #[.int .i64 0, .int .i64 0, .string ByteArray.empty]).cells (n * 3)).toList.length = n * 3 := by
  simp [madeCells]
end Go.Proofs.Ytdgohbhffjinmaa
