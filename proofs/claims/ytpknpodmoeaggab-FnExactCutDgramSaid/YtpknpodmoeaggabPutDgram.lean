/-
  An element of a row of Dgram, written; a row that was just made.
-/
import Derived.Test.YtpknpodmoeaggabDataDgram
import Derived.Test.YtpknpodmoeaggabRows
import Derived.OwnWalk
namespace Go.Proofs.Ytpknpodmoeaggab
open Go.RowKit

theorem toDgram_info : (Try.prog.info? 23).map (fun i => (i.zero, i.size, i.bytes)) = some (some (.agg #[.int .i64 0, .int .i64 0, .int .i64 0, .int .i64 0, .bool false, .string ByteArray.empty]), 6, 56) := by kernel_rfl
/-- an element's cells are written -/
theorem put_dgram {w w2 : World} {g k : Nat} {t : TypeId} {l : List DgramD} {r : List Value} (hk : k < l.length) (h : BlockIs w g t (dgramCells (l.take k) ++ r)) (hr : r.length = (l.length - k) * 6) {B : Nat} (hb : Below B w w2) (hg : g < B) :
    (∃ o0 o1 o2 o3 o4 o5, w2.cell? ⟨g, k * 6, none⟩ = some o0 ∧ w2.cell? ⟨g, k * 6 + 1, none⟩ = some o1 ∧ w2.cell? ⟨g, k * 6 + 2, none⟩ = some o2 ∧ w2.cell? ⟨g, k * 6 + 3, none⟩ = some o3 ∧ w2.cell? ⟨g, k * 6 + 4, none⟩ = some o4 ∧ w2.cell? ⟨g, k * 6 + 5, none⟩ = some o5) ∧ (∀ j, w2.frozen? ⟨g, j, none⟩ = false) ∧
    ∃ r', r'.length = (l.length - (k + 1)) * 6 ∧ BlockIs ((((((w2.setCell ⟨g, k * 6, none⟩ (.int .i64 l[k].src)).setCell ⟨g, k * 6 + 1, none⟩ (.int .i64 l[k].dst)).setCell ⟨g, k * 6 + 2, none⟩ (.int .i64 l[k].ident)).setCell ⟨g, k * 6 + 3, none⟩ (.int .i64 l[k].place)).setCell ⟨g, k * 6 + 4, none⟩ (.bool l[k].more)).setCell ⟨g, k * 6 + 5, none⟩ (.string l[k].body)) g t (dgramCells (l.take (k + 1)) ++ r') := by
  have h2 := h.on hb hg
  have hlen : (dgramCells (l.take k)).length = k * 6 := by rw [dgramCells_length, List.length_take]; omega
  match r, hr with
  | z0 :: z1 :: z2 :: z3 :: z4 :: z5 :: r', hr =>
    have hs := (((((h2.set (k * 6) (.int .i64 l[k].src)).set (k * 6 + 1) (.int .i64 l[k].dst)).set (k * 6 + 2) (.int .i64 l[k].ident)).set (k * 6 + 3) (.int .i64 l[k].place)).set (k * 6 + 4) (.bool l[k].more)).set (k * 6 + 5) (.string l[k].body)
    have e3 := dgram_sets (dgramCells (l.take k)) (.int .i64 l[k].src) (.int .i64 l[k].dst) (.int .i64 l[k].ident) (.int .i64 l[k].place) (.bool l[k].more) (.string l[k].body) z0 z1 z2 z3 z4 z5 r'
    rw [hlen] at e3
    rw [e3] at hs
    refine ⟨⟨z0, z1, z2, z3, z4, z5, h2.cell ?_, h2.cell ?_, h2.cell ?_, h2.cell ?_, h2.cell ?_, h2.cell ?_⟩, fun j => h2.thaw j, r', ?_, ?_⟩
    · rw [List.getElem?_append_right (by omega), hlen, Nat.sub_self]; rfl
    · rw [List.getElem?_append_right (by omega), hlen, show k * 6 + 1 - k * 6 = 1 by omega]; rfl
    · rw [List.getElem?_append_right (by omega), hlen, show k * 6 + 2 - k * 6 = 2 by omega]; rfl
    · rw [List.getElem?_append_right (by omega), hlen, show k * 6 + 3 - k * 6 = 3 by omega]; rfl
    · rw [List.getElem?_append_right (by omega), hlen, show k * 6 + 4 - k * 6 = 4 by omega]; rfl
    · rw [List.getElem?_append_right (by omega), hlen, show k * 6 + 5 - k * 6 = 5 by omega]; rfl
    · simp at hr; omega
    · rw [dgramCells_take l k hk, List.append_assoc]
      exact hs
  | [], hr => simp at hr; omega
  | [_], hr => simp at hr; omega
  | [_, _], hr => simp at hr; omega
  | [_, _, _], hr => simp at hr; omega
  | [_, _, _, _], hr => simp at hr; omega
  | [_, _, _, _, _], hr => simp at hr; omega

theorem made_dgram (n : Nat) : (madeCells (Value.agg #[.int .i64 0, .int .i64 0, .int .i64 0, .int .i64 0, .bool false, .string ByteArray.empty]).cells (n * 6)).toList.length = n * 6 := by
  simp [madeCells]
end Go.Proofs.Ytpknpodmoeaggab
